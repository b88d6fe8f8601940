/-
What is proved: what a day does to a basin, as the program tells it, where it is refused.
-/
import Derived.Test.YtiamhpopgnblcaaBasinV
namespace Go.Proofs.Ytiamhpopgnblcaa
set_option maxRecDepth 40000
open Go.RowKit
set_option linter.unusedVariables false
set_option linter.unusedSimpArgs false

set_option maxHeartbeats 2000000 in
theorem implBasin_no0 (S I O P full q k d y : Int) (ok : Bool) (s : Option Addr) (n c : Nat) (V : Nat → Int) (w : World) (y1 : -5000000000000 ≤ y) (y2 : y ≤ 5000000000000) (HR : Hid (RowI w s (n * 2) V)) (HA : Hid (∀ s c w, RowI w s (n * 2) V → Calls Try.prog 36 #[.slice s n c, .int .i64 d] w fun e w' => e = .returned (.tuple #[.int .i64 y, .bool ok]) ∧ Below w.heap.size w w')) (h0 : basB S I O P = false) :
    Calls Try.prog 15 #[.agg #[.int .i64 S, .int .i64 I, .int .i64 O, .int .i64 P], .int .i64 full, .slice s n c, .agg #[.int .i64 q, .int .i64 k, .int .i64 d]] w fun e w' => e = .returned (.tuple #[.agg #[.int .i64 0, .int .i64 0, .int .i64 0, .int .i64 0], .bool false]) ∧ Below w.heap.size w w' := by
  go_enter Try.func15, Try.ntmps15
  go_upto_region 1 with fail
  obtain ⟨wd, hwd⟩ : ∃ wd, wd = (((w.alloc (.cells #[.int .i64 S, .int .i64 I, .int .i64 O, .int .i64 P] 25)).alloc (.cells #[.int .i64 q, .int .i64 k, .int .i64 d] 33)).alloc (.cells #[.int .i64 0, .int .i64 0, .int .i64 0, .int .i64 0] 25)) := ⟨_, rfl⟩
  rw [← hwd]
  have c0 : wd.cell? ⟨w.heap.size, 0, none⟩ = some (.int .i64 S) := by rw [hwd]; simp [go_sem]
  have c1 : wd.cell? ⟨w.heap.size, 1, none⟩ = some (.int .i64 I) := by rw [hwd]; simp [go_sem]
  have c2 : wd.cell? ⟨w.heap.size, 2, none⟩ = some (.int .i64 O) := by rw [hwd]; simp [go_sem]
  have c3 : wd.cell? ⟨w.heap.size, 3, none⟩ = some (.int .i64 P) := by rw [hwd]; simp [go_sem]
  have c4 : wd.cell? ⟨w.heap.size + 1, 0, none⟩ = some (.int .i64 q) := by rw [hwd]; simp [go_sem]
  have c5 : wd.cell? ⟨w.heap.size + 1, 1, none⟩ = some (.int .i64 k) := by rw [hwd]; simp [go_sem]
  have c6 : wd.cell? ⟨w.heap.size + 1, 2, none⟩ = some (.int .i64 d) := by rw [hwd]; simp [go_sem]
  have c7 : wd.cell? ⟨w.heap.size + 1 + 1, 0, none⟩ = some (.int .i64 0) := by rw [hwd]; simp [go_sem]
  have c8 : wd.cell? ⟨w.heap.size + 1 + 1, 1, none⟩ = some (.int .i64 0) := by rw [hwd]; simp [go_sem]
  have c9 : wd.cell? ⟨w.heap.size + 1 + 1, 2, none⟩ = some (.int .i64 0) := by rw [hwd]; simp [go_sem]
  have c10 : wd.cell? ⟨w.heap.size + 1 + 1, 3, none⟩ = some (.int .i64 0) := by rw [hwd]; simp [go_sem]
  have f0 : wd.frozen? ⟨w.heap.size, 0, none⟩ = false := by rw [hwd]; simp [go_sem]
  have f1 : wd.frozen? ⟨w.heap.size, 1, none⟩ = false := by rw [hwd]; simp [go_sem]
  have f2 : wd.frozen? ⟨w.heap.size, 2, none⟩ = false := by rw [hwd]; simp [go_sem]
  have f3 : wd.frozen? ⟨w.heap.size, 3, none⟩ = false := by rw [hwd]; simp [go_sem]
  have f7 : wd.frozen? ⟨w.heap.size + 1 + 1, 0, none⟩ = false := by rw [hwd]; simp [go_sem]
  have f8 : wd.frozen? ⟨w.heap.size + 1 + 1, 1, none⟩ = false := by rw [hwd]; simp [go_sem]
  have f9 : wd.frozen? ⟨w.heap.size + 1 + 1, 2, none⟩ = false := by rw [hwd]; simp [go_sem]
  have f10 : wd.frozen? ⟨w.heap.size + 1 + 1, 3, none⟩ = false := by rw [hwd]; simp [go_sem]
  have z0 : w.heap.size < wd.heap.size := by rw [hwd]; simp; omega
  have z1 : w.heap.size + 1 < wd.heap.size := by rw [hwd]; simp
  have z2 : w.heap.size + 1 + 1 < wd.heap.size := by rw [hwd]; simp
  have B0 : Below w.heap.size w wd := by rw [hwd]; exact (by repeat (first | with_reducible exact Below.refl _ _ | with_reducible refine Below.setCell ?_ (by first | omega | (simp; done) | (simp; omega)) _ | with_reducible refine bDrewN ?_ _ | with_reducible refine Below.drew ?_ | with_reducible refine Below.alloc ?_ (by first | omega | (simp; done) | (simp; omega)) _))
  have s0 := B0.size
  clear hwd
  go_wp2_with fail
  refine (right_any _ _ _ _ _).mono ?_
  rintro e w1 ⟨rfl, h1⟩
  replace c0 := (h1.cell (p := ⟨w.heap.size, 0, none⟩) z0).trans c0
  replace c1 := (h1.cell (p := ⟨w.heap.size, 1, none⟩) z0).trans c1
  replace c2 := (h1.cell (p := ⟨w.heap.size, 2, none⟩) z0).trans c2
  replace c3 := (h1.cell (p := ⟨w.heap.size, 3, none⟩) z0).trans c3
  replace c4 := (h1.cell (p := ⟨w.heap.size + 1, 0, none⟩) z1).trans c4
  replace c5 := (h1.cell (p := ⟨w.heap.size + 1, 1, none⟩) z1).trans c5
  replace c6 := (h1.cell (p := ⟨w.heap.size + 1, 2, none⟩) z1).trans c6
  replace c7 := (h1.cell (p := ⟨w.heap.size + 1 + 1, 0, none⟩) z2).trans c7
  replace c8 := (h1.cell (p := ⟨w.heap.size + 1 + 1, 1, none⟩) z2).trans c8
  replace c9 := (h1.cell (p := ⟨w.heap.size + 1 + 1, 2, none⟩) z2).trans c9
  replace c10 := (h1.cell (p := ⟨w.heap.size + 1 + 1, 3, none⟩) z2).trans c10
  replace f0 := (h1.frozen (p := ⟨w.heap.size, 0, none⟩) z0).trans f0
  replace f1 := (h1.frozen (p := ⟨w.heap.size, 1, none⟩) z0).trans f1
  replace f2 := (h1.frozen (p := ⟨w.heap.size, 2, none⟩) z0).trans f2
  replace f3 := (h1.frozen (p := ⟨w.heap.size, 3, none⟩) z0).trans f3
  replace f7 := (h1.frozen (p := ⟨w.heap.size + 1 + 1, 0, none⟩) z2).trans f7
  replace f8 := (h1.frozen (p := ⟨w.heap.size + 1 + 1, 1, none⟩) z2).trans f8
  replace f9 := (h1.frozen (p := ⟨w.heap.size + 1 + 1, 2, none⟩) z2).trans f9
  replace f10 := (h1.frozen (p := ⟨w.heap.size + 1 + 1, 3, none⟩) z2).trans f10
  replace z0 := Nat.lt_of_lt_of_le z0 h1.size
  replace z1 := Nat.lt_of_lt_of_le z1 h1.size
  replace z2 := Nat.lt_of_lt_of_le z2 h1.size
  replace B0 : Below w.heap.size w w1 := B0.trans (h1.mono s0)
  replace s0 := B0.size
  clear h1
  rw [h0]
  go_wp2
  exact bodyPost_ret (v := .tuple #[.agg #[.int .i64 0, .int .i64 0, .int .i64 0, .int .i64 0], .bool false]) (by simp [results, Try.results15, go_sem, c7, c8, c9, c10]) rfl ⟨rfl, (by repeat (first | with_reducible exact Below.refl _ _ | with_reducible exact B0 | with_reducible refine Below.setCell ?_ (by first | omega | (simp; done) | (simp; omega)) _ | with_reducible refine bDrewN ?_ _ | with_reducible refine Below.drew ?_ | with_reducible refine Below.alloc ?_ (by first | omega | (simp; done) | (simp; omega)) _))⟩
set_option maxHeartbeats 2000000 in
theorem implBasin_no1 (S I O P full q k d y : Int) (ok : Bool) (s : Option Addr) (n c : Nat) (V : Nat → Int) (w : World) (y1 : -5000000000000 ≤ y) (y2 : y ≤ 5000000000000) (HR : Hid (RowI w s (n * 2) V)) (HA : Hid (∀ s c w, RowI w s (n * 2) V → Calls Try.prog 36 #[.slice s n c, .int .i64 d] w fun e w' => e = .returned (.tuple #[.int .i64 y, .bool ok]) ∧ Below w.heap.size w w')) (h0 : basB S I O P = true) (h12 : watB q k = false) :
    Calls Try.prog 15 #[.agg #[.int .i64 S, .int .i64 I, .int .i64 O, .int .i64 P], .int .i64 full, .slice s n c, .agg #[.int .i64 q, .int .i64 k, .int .i64 d]] w fun e w' => e = .returned (.tuple #[.agg #[.int .i64 0, .int .i64 0, .int .i64 0, .int .i64 0], .bool false]) ∧ Below w.heap.size w w' := by
  go_enter Try.func15, Try.ntmps15
  go_upto_region 1 with fail
  obtain ⟨wd, hwd⟩ : ∃ wd, wd = (((w.alloc (.cells #[.int .i64 S, .int .i64 I, .int .i64 O, .int .i64 P] 25)).alloc (.cells #[.int .i64 q, .int .i64 k, .int .i64 d] 33)).alloc (.cells #[.int .i64 0, .int .i64 0, .int .i64 0, .int .i64 0] 25)) := ⟨_, rfl⟩
  rw [← hwd]
  have c0 : wd.cell? ⟨w.heap.size, 0, none⟩ = some (.int .i64 S) := by rw [hwd]; simp [go_sem]
  have c1 : wd.cell? ⟨w.heap.size, 1, none⟩ = some (.int .i64 I) := by rw [hwd]; simp [go_sem]
  have c2 : wd.cell? ⟨w.heap.size, 2, none⟩ = some (.int .i64 O) := by rw [hwd]; simp [go_sem]
  have c3 : wd.cell? ⟨w.heap.size, 3, none⟩ = some (.int .i64 P) := by rw [hwd]; simp [go_sem]
  have c4 : wd.cell? ⟨w.heap.size + 1, 0, none⟩ = some (.int .i64 q) := by rw [hwd]; simp [go_sem]
  have c5 : wd.cell? ⟨w.heap.size + 1, 1, none⟩ = some (.int .i64 k) := by rw [hwd]; simp [go_sem]
  have c6 : wd.cell? ⟨w.heap.size + 1, 2, none⟩ = some (.int .i64 d) := by rw [hwd]; simp [go_sem]
  have c7 : wd.cell? ⟨w.heap.size + 1 + 1, 0, none⟩ = some (.int .i64 0) := by rw [hwd]; simp [go_sem]
  have c8 : wd.cell? ⟨w.heap.size + 1 + 1, 1, none⟩ = some (.int .i64 0) := by rw [hwd]; simp [go_sem]
  have c9 : wd.cell? ⟨w.heap.size + 1 + 1, 2, none⟩ = some (.int .i64 0) := by rw [hwd]; simp [go_sem]
  have c10 : wd.cell? ⟨w.heap.size + 1 + 1, 3, none⟩ = some (.int .i64 0) := by rw [hwd]; simp [go_sem]
  have f0 : wd.frozen? ⟨w.heap.size, 0, none⟩ = false := by rw [hwd]; simp [go_sem]
  have f1 : wd.frozen? ⟨w.heap.size, 1, none⟩ = false := by rw [hwd]; simp [go_sem]
  have f2 : wd.frozen? ⟨w.heap.size, 2, none⟩ = false := by rw [hwd]; simp [go_sem]
  have f3 : wd.frozen? ⟨w.heap.size, 3, none⟩ = false := by rw [hwd]; simp [go_sem]
  have f7 : wd.frozen? ⟨w.heap.size + 1 + 1, 0, none⟩ = false := by rw [hwd]; simp [go_sem]
  have f8 : wd.frozen? ⟨w.heap.size + 1 + 1, 1, none⟩ = false := by rw [hwd]; simp [go_sem]
  have f9 : wd.frozen? ⟨w.heap.size + 1 + 1, 2, none⟩ = false := by rw [hwd]; simp [go_sem]
  have f10 : wd.frozen? ⟨w.heap.size + 1 + 1, 3, none⟩ = false := by rw [hwd]; simp [go_sem]
  have z0 : w.heap.size < wd.heap.size := by rw [hwd]; simp; omega
  have z1 : w.heap.size + 1 < wd.heap.size := by rw [hwd]; simp
  have z2 : w.heap.size + 1 + 1 < wd.heap.size := by rw [hwd]; simp
  have B0 : Below w.heap.size w wd := by rw [hwd]; exact (by repeat (first | with_reducible exact Below.refl _ _ | with_reducible refine Below.setCell ?_ (by first | omega | (simp; done) | (simp; omega)) _ | with_reducible refine bDrewN ?_ _ | with_reducible refine Below.drew ?_ | with_reducible refine Below.alloc ?_ (by first | omega | (simp; done) | (simp; omega)) _))
  have s0 := B0.size
  clear hwd
  go_wp2_with fail
  refine (right_any _ _ _ _ _).mono ?_
  rintro e w1 ⟨rfl, h1⟩
  replace c0 := (h1.cell (p := ⟨w.heap.size, 0, none⟩) z0).trans c0
  replace c1 := (h1.cell (p := ⟨w.heap.size, 1, none⟩) z0).trans c1
  replace c2 := (h1.cell (p := ⟨w.heap.size, 2, none⟩) z0).trans c2
  replace c3 := (h1.cell (p := ⟨w.heap.size, 3, none⟩) z0).trans c3
  replace c4 := (h1.cell (p := ⟨w.heap.size + 1, 0, none⟩) z1).trans c4
  replace c5 := (h1.cell (p := ⟨w.heap.size + 1, 1, none⟩) z1).trans c5
  replace c6 := (h1.cell (p := ⟨w.heap.size + 1, 2, none⟩) z1).trans c6
  replace c7 := (h1.cell (p := ⟨w.heap.size + 1 + 1, 0, none⟩) z2).trans c7
  replace c8 := (h1.cell (p := ⟨w.heap.size + 1 + 1, 1, none⟩) z2).trans c8
  replace c9 := (h1.cell (p := ⟨w.heap.size + 1 + 1, 2, none⟩) z2).trans c9
  replace c10 := (h1.cell (p := ⟨w.heap.size + 1 + 1, 3, none⟩) z2).trans c10
  replace f0 := (h1.frozen (p := ⟨w.heap.size, 0, none⟩) z0).trans f0
  replace f1 := (h1.frozen (p := ⟨w.heap.size, 1, none⟩) z0).trans f1
  replace f2 := (h1.frozen (p := ⟨w.heap.size, 2, none⟩) z0).trans f2
  replace f3 := (h1.frozen (p := ⟨w.heap.size, 3, none⟩) z0).trans f3
  replace f7 := (h1.frozen (p := ⟨w.heap.size + 1 + 1, 0, none⟩) z2).trans f7
  replace f8 := (h1.frozen (p := ⟨w.heap.size + 1 + 1, 1, none⟩) z2).trans f8
  replace f9 := (h1.frozen (p := ⟨w.heap.size + 1 + 1, 2, none⟩) z2).trans f9
  replace f10 := (h1.frozen (p := ⟨w.heap.size + 1 + 1, 3, none⟩) z2).trans f10
  replace z0 := Nat.lt_of_lt_of_le z0 h1.size
  replace z1 := Nat.lt_of_lt_of_le z1 h1.size
  replace z2 := Nat.lt_of_lt_of_le z2 h1.size
  replace B0 : Below w.heap.size w w1 := B0.trans (h1.mono s0)
  replace s0 := B0.size
  clear h1
  rw [h0]
  go_wp2_with fail
  refine (waterRight_any _ _ _ _).mono ?_
  rintro e w2 ⟨rfl, h2⟩
  replace c0 := (h2.cell (p := ⟨w.heap.size, 0, none⟩) z0).trans c0
  replace c1 := (h2.cell (p := ⟨w.heap.size, 1, none⟩) z0).trans c1
  replace c2 := (h2.cell (p := ⟨w.heap.size, 2, none⟩) z0).trans c2
  replace c3 := (h2.cell (p := ⟨w.heap.size, 3, none⟩) z0).trans c3
  replace c4 := (h2.cell (p := ⟨w.heap.size + 1, 0, none⟩) z1).trans c4
  replace c5 := (h2.cell (p := ⟨w.heap.size + 1, 1, none⟩) z1).trans c5
  replace c6 := (h2.cell (p := ⟨w.heap.size + 1, 2, none⟩) z1).trans c6
  replace c7 := (h2.cell (p := ⟨w.heap.size + 1 + 1, 0, none⟩) z2).trans c7
  replace c8 := (h2.cell (p := ⟨w.heap.size + 1 + 1, 1, none⟩) z2).trans c8
  replace c9 := (h2.cell (p := ⟨w.heap.size + 1 + 1, 2, none⟩) z2).trans c9
  replace c10 := (h2.cell (p := ⟨w.heap.size + 1 + 1, 3, none⟩) z2).trans c10
  replace f0 := (h2.frozen (p := ⟨w.heap.size, 0, none⟩) z0).trans f0
  replace f1 := (h2.frozen (p := ⟨w.heap.size, 1, none⟩) z0).trans f1
  replace f2 := (h2.frozen (p := ⟨w.heap.size, 2, none⟩) z0).trans f2
  replace f3 := (h2.frozen (p := ⟨w.heap.size, 3, none⟩) z0).trans f3
  replace f7 := (h2.frozen (p := ⟨w.heap.size + 1 + 1, 0, none⟩) z2).trans f7
  replace f8 := (h2.frozen (p := ⟨w.heap.size + 1 + 1, 1, none⟩) z2).trans f8
  replace f9 := (h2.frozen (p := ⟨w.heap.size + 1 + 1, 2, none⟩) z2).trans f9
  replace f10 := (h2.frozen (p := ⟨w.heap.size + 1 + 1, 3, none⟩) z2).trans f10
  replace z0 := Nat.lt_of_lt_of_le z0 h2.size
  replace z1 := Nat.lt_of_lt_of_le z1 h2.size
  replace z2 := Nat.lt_of_lt_of_le z2 h2.size
  replace B0 : Below w.heap.size w w2 := B0.trans (h2.mono s0)
  replace s0 := B0.size
  clear h2
  rw [h12]
  go_wp2
  exact bodyPost_ret (v := .tuple #[.agg #[.int .i64 0, .int .i64 0, .int .i64 0, .int .i64 0], .bool false]) (by simp [results, Try.results15, go_sem, c7, c8, c9, c10]) rfl ⟨rfl, (by repeat (first | with_reducible exact Below.refl _ _ | with_reducible exact B0 | with_reducible refine Below.setCell ?_ (by first | omega | (simp; done) | (simp; omega)) _ | with_reducible refine bDrewN ?_ _ | with_reducible refine Below.drew ?_ | with_reducible refine Below.alloc ?_ (by first | omega | (simp; done) | (simp; omega)) _))⟩
set_option maxHeartbeats 2000000 in
theorem implBasin_no2 (S I O P full q k d y : Int) (ok : Bool) (s : Option Addr) (n c : Nat) (V : Nat → Int) (w : World) (y1 : -5000000000000 ≤ y) (y2 : y ≤ 5000000000000) (HR : Hid (RowI w s (n * 2) V)) (HA : Hid (∀ s c w, RowI w s (n * 2) V → Calls Try.prog 36 #[.slice s n c, .int .i64 d] w fun e w' => e = .returned (.tuple #[.int .i64 y, .bool ok]) ∧ Below w.heap.size w w')) (h0 : basB S I O P = true) (h12 : watB q k = true) (h3 : inB 0 1000000000000 full = false) :
    Calls Try.prog 15 #[.agg #[.int .i64 S, .int .i64 I, .int .i64 O, .int .i64 P], .int .i64 full, .slice s n c, .agg #[.int .i64 q, .int .i64 k, .int .i64 d]] w fun e w' => e = .returned (.tuple #[.agg #[.int .i64 0, .int .i64 0, .int .i64 0, .int .i64 0], .bool false]) ∧ Below w.heap.size w w' := by
  go_enter Try.func15, Try.ntmps15
  go_upto_region 1 with fail
  obtain ⟨wd, hwd⟩ : ∃ wd, wd = (((w.alloc (.cells #[.int .i64 S, .int .i64 I, .int .i64 O, .int .i64 P] 25)).alloc (.cells #[.int .i64 q, .int .i64 k, .int .i64 d] 33)).alloc (.cells #[.int .i64 0, .int .i64 0, .int .i64 0, .int .i64 0] 25)) := ⟨_, rfl⟩
  rw [← hwd]
  have c0 : wd.cell? ⟨w.heap.size, 0, none⟩ = some (.int .i64 S) := by rw [hwd]; simp [go_sem]
  have c1 : wd.cell? ⟨w.heap.size, 1, none⟩ = some (.int .i64 I) := by rw [hwd]; simp [go_sem]
  have c2 : wd.cell? ⟨w.heap.size, 2, none⟩ = some (.int .i64 O) := by rw [hwd]; simp [go_sem]
  have c3 : wd.cell? ⟨w.heap.size, 3, none⟩ = some (.int .i64 P) := by rw [hwd]; simp [go_sem]
  have c4 : wd.cell? ⟨w.heap.size + 1, 0, none⟩ = some (.int .i64 q) := by rw [hwd]; simp [go_sem]
  have c5 : wd.cell? ⟨w.heap.size + 1, 1, none⟩ = some (.int .i64 k) := by rw [hwd]; simp [go_sem]
  have c6 : wd.cell? ⟨w.heap.size + 1, 2, none⟩ = some (.int .i64 d) := by rw [hwd]; simp [go_sem]
  have c7 : wd.cell? ⟨w.heap.size + 1 + 1, 0, none⟩ = some (.int .i64 0) := by rw [hwd]; simp [go_sem]
  have c8 : wd.cell? ⟨w.heap.size + 1 + 1, 1, none⟩ = some (.int .i64 0) := by rw [hwd]; simp [go_sem]
  have c9 : wd.cell? ⟨w.heap.size + 1 + 1, 2, none⟩ = some (.int .i64 0) := by rw [hwd]; simp [go_sem]
  have c10 : wd.cell? ⟨w.heap.size + 1 + 1, 3, none⟩ = some (.int .i64 0) := by rw [hwd]; simp [go_sem]
  have f0 : wd.frozen? ⟨w.heap.size, 0, none⟩ = false := by rw [hwd]; simp [go_sem]
  have f1 : wd.frozen? ⟨w.heap.size, 1, none⟩ = false := by rw [hwd]; simp [go_sem]
  have f2 : wd.frozen? ⟨w.heap.size, 2, none⟩ = false := by rw [hwd]; simp [go_sem]
  have f3 : wd.frozen? ⟨w.heap.size, 3, none⟩ = false := by rw [hwd]; simp [go_sem]
  have f7 : wd.frozen? ⟨w.heap.size + 1 + 1, 0, none⟩ = false := by rw [hwd]; simp [go_sem]
  have f8 : wd.frozen? ⟨w.heap.size + 1 + 1, 1, none⟩ = false := by rw [hwd]; simp [go_sem]
  have f9 : wd.frozen? ⟨w.heap.size + 1 + 1, 2, none⟩ = false := by rw [hwd]; simp [go_sem]
  have f10 : wd.frozen? ⟨w.heap.size + 1 + 1, 3, none⟩ = false := by rw [hwd]; simp [go_sem]
  have z0 : w.heap.size < wd.heap.size := by rw [hwd]; simp; omega
  have z1 : w.heap.size + 1 < wd.heap.size := by rw [hwd]; simp
  have z2 : w.heap.size + 1 + 1 < wd.heap.size := by rw [hwd]; simp
  have B0 : Below w.heap.size w wd := by rw [hwd]; exact (by repeat (first | with_reducible exact Below.refl _ _ | with_reducible refine Below.setCell ?_ (by first | omega | (simp; done) | (simp; omega)) _ | with_reducible refine bDrewN ?_ _ | with_reducible refine Below.drew ?_ | with_reducible refine Below.alloc ?_ (by first | omega | (simp; done) | (simp; omega)) _))
  have s0 := B0.size
  clear hwd
  go_wp2_with fail
  refine (right_any _ _ _ _ _).mono ?_
  rintro e w1 ⟨rfl, h1⟩
  replace c0 := (h1.cell (p := ⟨w.heap.size, 0, none⟩) z0).trans c0
  replace c1 := (h1.cell (p := ⟨w.heap.size, 1, none⟩) z0).trans c1
  replace c2 := (h1.cell (p := ⟨w.heap.size, 2, none⟩) z0).trans c2
  replace c3 := (h1.cell (p := ⟨w.heap.size, 3, none⟩) z0).trans c3
  replace c4 := (h1.cell (p := ⟨w.heap.size + 1, 0, none⟩) z1).trans c4
  replace c5 := (h1.cell (p := ⟨w.heap.size + 1, 1, none⟩) z1).trans c5
  replace c6 := (h1.cell (p := ⟨w.heap.size + 1, 2, none⟩) z1).trans c6
  replace c7 := (h1.cell (p := ⟨w.heap.size + 1 + 1, 0, none⟩) z2).trans c7
  replace c8 := (h1.cell (p := ⟨w.heap.size + 1 + 1, 1, none⟩) z2).trans c8
  replace c9 := (h1.cell (p := ⟨w.heap.size + 1 + 1, 2, none⟩) z2).trans c9
  replace c10 := (h1.cell (p := ⟨w.heap.size + 1 + 1, 3, none⟩) z2).trans c10
  replace f0 := (h1.frozen (p := ⟨w.heap.size, 0, none⟩) z0).trans f0
  replace f1 := (h1.frozen (p := ⟨w.heap.size, 1, none⟩) z0).trans f1
  replace f2 := (h1.frozen (p := ⟨w.heap.size, 2, none⟩) z0).trans f2
  replace f3 := (h1.frozen (p := ⟨w.heap.size, 3, none⟩) z0).trans f3
  replace f7 := (h1.frozen (p := ⟨w.heap.size + 1 + 1, 0, none⟩) z2).trans f7
  replace f8 := (h1.frozen (p := ⟨w.heap.size + 1 + 1, 1, none⟩) z2).trans f8
  replace f9 := (h1.frozen (p := ⟨w.heap.size + 1 + 1, 2, none⟩) z2).trans f9
  replace f10 := (h1.frozen (p := ⟨w.heap.size + 1 + 1, 3, none⟩) z2).trans f10
  replace z0 := Nat.lt_of_lt_of_le z0 h1.size
  replace z1 := Nat.lt_of_lt_of_le z1 h1.size
  replace z2 := Nat.lt_of_lt_of_le z2 h1.size
  replace B0 : Below w.heap.size w w1 := B0.trans (h1.mono s0)
  replace s0 := B0.size
  clear h1
  rw [h0]
  go_wp2_with fail
  refine (waterRight_any _ _ _ _).mono ?_
  rintro e w2 ⟨rfl, h2⟩
  replace c0 := (h2.cell (p := ⟨w.heap.size, 0, none⟩) z0).trans c0
  replace c1 := (h2.cell (p := ⟨w.heap.size, 1, none⟩) z0).trans c1
  replace c2 := (h2.cell (p := ⟨w.heap.size, 2, none⟩) z0).trans c2
  replace c3 := (h2.cell (p := ⟨w.heap.size, 3, none⟩) z0).trans c3
  replace c4 := (h2.cell (p := ⟨w.heap.size + 1, 0, none⟩) z1).trans c4
  replace c5 := (h2.cell (p := ⟨w.heap.size + 1, 1, none⟩) z1).trans c5
  replace c6 := (h2.cell (p := ⟨w.heap.size + 1, 2, none⟩) z1).trans c6
  replace c7 := (h2.cell (p := ⟨w.heap.size + 1 + 1, 0, none⟩) z2).trans c7
  replace c8 := (h2.cell (p := ⟨w.heap.size + 1 + 1, 1, none⟩) z2).trans c8
  replace c9 := (h2.cell (p := ⟨w.heap.size + 1 + 1, 2, none⟩) z2).trans c9
  replace c10 := (h2.cell (p := ⟨w.heap.size + 1 + 1, 3, none⟩) z2).trans c10
  replace f0 := (h2.frozen (p := ⟨w.heap.size, 0, none⟩) z0).trans f0
  replace f1 := (h2.frozen (p := ⟨w.heap.size, 1, none⟩) z0).trans f1
  replace f2 := (h2.frozen (p := ⟨w.heap.size, 2, none⟩) z0).trans f2
  replace f3 := (h2.frozen (p := ⟨w.heap.size, 3, none⟩) z0).trans f3
  replace f7 := (h2.frozen (p := ⟨w.heap.size + 1 + 1, 0, none⟩) z2).trans f7
  replace f8 := (h2.frozen (p := ⟨w.heap.size + 1 + 1, 1, none⟩) z2).trans f8
  replace f9 := (h2.frozen (p := ⟨w.heap.size + 1 + 1, 2, none⟩) z2).trans f9
  replace f10 := (h2.frozen (p := ⟨w.heap.size + 1 + 1, 3, none⟩) z2).trans f10
  replace z0 := Nat.lt_of_lt_of_le z0 h2.size
  replace z1 := Nat.lt_of_lt_of_le z1 h2.size
  replace z2 := Nat.lt_of_lt_of_le z2 h2.size
  replace B0 : Below w.heap.size w w2 := B0.trans (h2.mono s0)
  replace s0 := B0.size
  clear h2
  rw [h12]
  go_wp2_with fail
  refine (within_is _ _ _ _).mono ?_
  rintro e w2 ⟨rfl, rfl⟩
  rw [h3]
  go_wp2
  exact bodyPost_ret (v := .tuple #[.agg #[.int .i64 0, .int .i64 0, .int .i64 0, .int .i64 0], .bool false]) (by simp [results, Try.results15, go_sem, c7, c8, c9, c10]) rfl ⟨rfl, (by repeat (first | with_reducible exact Below.refl _ _ | with_reducible exact B0 | with_reducible refine Below.setCell ?_ (by first | omega | (simp; done) | (simp; omega)) _ | with_reducible refine bDrewN ?_ _ | with_reducible refine Below.drew ?_ | with_reducible refine Below.alloc ?_ (by first | omega | (simp; done) | (simp; omega)) _))⟩
set_option maxHeartbeats 2000000 in
theorem implBasin_noA (S I O P full q k d y : Int) (ok : Bool) (s : Option Addr) (n c : Nat) (V : Nat → Int) (w : World) (y1 : -5000000000000 ≤ y) (y2 : y ≤ 5000000000000) (HR : Hid (RowI w s (n * 2) V)) (HA : Hid (∀ s c w, RowI w s (n * 2) V → Calls Try.prog 36 #[.slice s n c, .int .i64 d] w fun e w' => e = .returned (.tuple #[.int .i64 y, .bool ok]) ∧ Below w.heap.size w w')) (h0 : basB S I O P = true) (h12 : watB q k = true) (h3 : inB 0 1000000000000 full = true) (hk : ok = false) :
    Calls Try.prog 15 #[.agg #[.int .i64 S, .int .i64 I, .int .i64 O, .int .i64 P], .int .i64 full, .slice s n c, .agg #[.int .i64 q, .int .i64 k, .int .i64 d]] w fun e w' => e = .returned (.tuple #[.agg #[.int .i64 0, .int .i64 0, .int .i64 0, .int .i64 0], .bool false]) ∧ Below w.heap.size w w' := by
  subst hk
  go_enter Try.func15, Try.ntmps15
  go_upto_region 1 with fail
  obtain ⟨wd, hwd⟩ : ∃ wd, wd = (((w.alloc (.cells #[.int .i64 S, .int .i64 I, .int .i64 O, .int .i64 P] 25)).alloc (.cells #[.int .i64 q, .int .i64 k, .int .i64 d] 33)).alloc (.cells #[.int .i64 0, .int .i64 0, .int .i64 0, .int .i64 0] 25)) := ⟨_, rfl⟩
  rw [← hwd]
  have c0 : wd.cell? ⟨w.heap.size, 0, none⟩ = some (.int .i64 S) := by rw [hwd]; simp [go_sem]
  have c1 : wd.cell? ⟨w.heap.size, 1, none⟩ = some (.int .i64 I) := by rw [hwd]; simp [go_sem]
  have c2 : wd.cell? ⟨w.heap.size, 2, none⟩ = some (.int .i64 O) := by rw [hwd]; simp [go_sem]
  have c3 : wd.cell? ⟨w.heap.size, 3, none⟩ = some (.int .i64 P) := by rw [hwd]; simp [go_sem]
  have c4 : wd.cell? ⟨w.heap.size + 1, 0, none⟩ = some (.int .i64 q) := by rw [hwd]; simp [go_sem]
  have c5 : wd.cell? ⟨w.heap.size + 1, 1, none⟩ = some (.int .i64 k) := by rw [hwd]; simp [go_sem]
  have c6 : wd.cell? ⟨w.heap.size + 1, 2, none⟩ = some (.int .i64 d) := by rw [hwd]; simp [go_sem]
  have c7 : wd.cell? ⟨w.heap.size + 1 + 1, 0, none⟩ = some (.int .i64 0) := by rw [hwd]; simp [go_sem]
  have c8 : wd.cell? ⟨w.heap.size + 1 + 1, 1, none⟩ = some (.int .i64 0) := by rw [hwd]; simp [go_sem]
  have c9 : wd.cell? ⟨w.heap.size + 1 + 1, 2, none⟩ = some (.int .i64 0) := by rw [hwd]; simp [go_sem]
  have c10 : wd.cell? ⟨w.heap.size + 1 + 1, 3, none⟩ = some (.int .i64 0) := by rw [hwd]; simp [go_sem]
  have f0 : wd.frozen? ⟨w.heap.size, 0, none⟩ = false := by rw [hwd]; simp [go_sem]
  have f1 : wd.frozen? ⟨w.heap.size, 1, none⟩ = false := by rw [hwd]; simp [go_sem]
  have f2 : wd.frozen? ⟨w.heap.size, 2, none⟩ = false := by rw [hwd]; simp [go_sem]
  have f3 : wd.frozen? ⟨w.heap.size, 3, none⟩ = false := by rw [hwd]; simp [go_sem]
  have f7 : wd.frozen? ⟨w.heap.size + 1 + 1, 0, none⟩ = false := by rw [hwd]; simp [go_sem]
  have f8 : wd.frozen? ⟨w.heap.size + 1 + 1, 1, none⟩ = false := by rw [hwd]; simp [go_sem]
  have f9 : wd.frozen? ⟨w.heap.size + 1 + 1, 2, none⟩ = false := by rw [hwd]; simp [go_sem]
  have f10 : wd.frozen? ⟨w.heap.size + 1 + 1, 3, none⟩ = false := by rw [hwd]; simp [go_sem]
  have z0 : w.heap.size < wd.heap.size := by rw [hwd]; simp; omega
  have z1 : w.heap.size + 1 < wd.heap.size := by rw [hwd]; simp
  have z2 : w.heap.size + 1 + 1 < wd.heap.size := by rw [hwd]; simp
  have B0 : Below w.heap.size w wd := by rw [hwd]; exact (by repeat (first | with_reducible exact Below.refl _ _ | with_reducible refine Below.setCell ?_ (by first | omega | (simp; done) | (simp; omega)) _ | with_reducible refine bDrewN ?_ _ | with_reducible refine Below.drew ?_ | with_reducible refine Below.alloc ?_ (by first | omega | (simp; done) | (simp; omega)) _))
  have s0 := B0.size
  clear hwd
  go_wp2_with fail
  refine (right_any _ _ _ _ _).mono ?_
  rintro e w1 ⟨rfl, h1⟩
  replace c0 := (h1.cell (p := ⟨w.heap.size, 0, none⟩) z0).trans c0
  replace c1 := (h1.cell (p := ⟨w.heap.size, 1, none⟩) z0).trans c1
  replace c2 := (h1.cell (p := ⟨w.heap.size, 2, none⟩) z0).trans c2
  replace c3 := (h1.cell (p := ⟨w.heap.size, 3, none⟩) z0).trans c3
  replace c4 := (h1.cell (p := ⟨w.heap.size + 1, 0, none⟩) z1).trans c4
  replace c5 := (h1.cell (p := ⟨w.heap.size + 1, 1, none⟩) z1).trans c5
  replace c6 := (h1.cell (p := ⟨w.heap.size + 1, 2, none⟩) z1).trans c6
  replace c7 := (h1.cell (p := ⟨w.heap.size + 1 + 1, 0, none⟩) z2).trans c7
  replace c8 := (h1.cell (p := ⟨w.heap.size + 1 + 1, 1, none⟩) z2).trans c8
  replace c9 := (h1.cell (p := ⟨w.heap.size + 1 + 1, 2, none⟩) z2).trans c9
  replace c10 := (h1.cell (p := ⟨w.heap.size + 1 + 1, 3, none⟩) z2).trans c10
  replace f0 := (h1.frozen (p := ⟨w.heap.size, 0, none⟩) z0).trans f0
  replace f1 := (h1.frozen (p := ⟨w.heap.size, 1, none⟩) z0).trans f1
  replace f2 := (h1.frozen (p := ⟨w.heap.size, 2, none⟩) z0).trans f2
  replace f3 := (h1.frozen (p := ⟨w.heap.size, 3, none⟩) z0).trans f3
  replace f7 := (h1.frozen (p := ⟨w.heap.size + 1 + 1, 0, none⟩) z2).trans f7
  replace f8 := (h1.frozen (p := ⟨w.heap.size + 1 + 1, 1, none⟩) z2).trans f8
  replace f9 := (h1.frozen (p := ⟨w.heap.size + 1 + 1, 2, none⟩) z2).trans f9
  replace f10 := (h1.frozen (p := ⟨w.heap.size + 1 + 1, 3, none⟩) z2).trans f10
  replace z0 := Nat.lt_of_lt_of_le z0 h1.size
  replace z1 := Nat.lt_of_lt_of_le z1 h1.size
  replace z2 := Nat.lt_of_lt_of_le z2 h1.size
  replace B0 : Below w.heap.size w w1 := B0.trans (h1.mono s0)
  replace s0 := B0.size
  clear h1
  rw [h0]
  go_wp2_with fail
  refine (waterRight_any _ _ _ _).mono ?_
  rintro e w2 ⟨rfl, h2⟩
  replace c0 := (h2.cell (p := ⟨w.heap.size, 0, none⟩) z0).trans c0
  replace c1 := (h2.cell (p := ⟨w.heap.size, 1, none⟩) z0).trans c1
  replace c2 := (h2.cell (p := ⟨w.heap.size, 2, none⟩) z0).trans c2
  replace c3 := (h2.cell (p := ⟨w.heap.size, 3, none⟩) z0).trans c3
  replace c4 := (h2.cell (p := ⟨w.heap.size + 1, 0, none⟩) z1).trans c4
  replace c5 := (h2.cell (p := ⟨w.heap.size + 1, 1, none⟩) z1).trans c5
  replace c6 := (h2.cell (p := ⟨w.heap.size + 1, 2, none⟩) z1).trans c6
  replace c7 := (h2.cell (p := ⟨w.heap.size + 1 + 1, 0, none⟩) z2).trans c7
  replace c8 := (h2.cell (p := ⟨w.heap.size + 1 + 1, 1, none⟩) z2).trans c8
  replace c9 := (h2.cell (p := ⟨w.heap.size + 1 + 1, 2, none⟩) z2).trans c9
  replace c10 := (h2.cell (p := ⟨w.heap.size + 1 + 1, 3, none⟩) z2).trans c10
  replace f0 := (h2.frozen (p := ⟨w.heap.size, 0, none⟩) z0).trans f0
  replace f1 := (h2.frozen (p := ⟨w.heap.size, 1, none⟩) z0).trans f1
  replace f2 := (h2.frozen (p := ⟨w.heap.size, 2, none⟩) z0).trans f2
  replace f3 := (h2.frozen (p := ⟨w.heap.size, 3, none⟩) z0).trans f3
  replace f7 := (h2.frozen (p := ⟨w.heap.size + 1 + 1, 0, none⟩) z2).trans f7
  replace f8 := (h2.frozen (p := ⟨w.heap.size + 1 + 1, 1, none⟩) z2).trans f8
  replace f9 := (h2.frozen (p := ⟨w.heap.size + 1 + 1, 2, none⟩) z2).trans f9
  replace f10 := (h2.frozen (p := ⟨w.heap.size + 1 + 1, 3, none⟩) z2).trans f10
  replace z0 := Nat.lt_of_lt_of_le z0 h2.size
  replace z1 := Nat.lt_of_lt_of_le z1 h2.size
  replace z2 := Nat.lt_of_lt_of_le z2 h2.size
  replace B0 : Below w.heap.size w w2 := B0.trans (h2.mono s0)
  replace s0 := B0.size
  clear h2
  rw [h12]
  go_wp2_with fail
  refine (within_is _ _ _ _).mono ?_
  rintro e w2 ⟨rfl, rfl⟩
  rw [h3]
  have HR1 : Hid (RowI w2 s (n * 2) V) := HR.out.below B0
  go_wp2_with fail
  refine (HA.out _ _ _ HR1.out).mono ?_
  rintro e w4 ⟨rfl, h4⟩
  replace c0 := (h4.cell (p := ⟨w.heap.size, 0, none⟩) z0).trans c0
  replace c1 := (h4.cell (p := ⟨w.heap.size, 1, none⟩) z0).trans c1
  replace c2 := (h4.cell (p := ⟨w.heap.size, 2, none⟩) z0).trans c2
  replace c3 := (h4.cell (p := ⟨w.heap.size, 3, none⟩) z0).trans c3
  replace c4 := (h4.cell (p := ⟨w.heap.size + 1, 0, none⟩) z1).trans c4
  replace c5 := (h4.cell (p := ⟨w.heap.size + 1, 1, none⟩) z1).trans c5
  replace c6 := (h4.cell (p := ⟨w.heap.size + 1, 2, none⟩) z1).trans c6
  replace c7 := (h4.cell (p := ⟨w.heap.size + 1 + 1, 0, none⟩) z2).trans c7
  replace c8 := (h4.cell (p := ⟨w.heap.size + 1 + 1, 1, none⟩) z2).trans c8
  replace c9 := (h4.cell (p := ⟨w.heap.size + 1 + 1, 2, none⟩) z2).trans c9
  replace c10 := (h4.cell (p := ⟨w.heap.size + 1 + 1, 3, none⟩) z2).trans c10
  replace f0 := (h4.frozen (p := ⟨w.heap.size, 0, none⟩) z0).trans f0
  replace f1 := (h4.frozen (p := ⟨w.heap.size, 1, none⟩) z0).trans f1
  replace f2 := (h4.frozen (p := ⟨w.heap.size, 2, none⟩) z0).trans f2
  replace f3 := (h4.frozen (p := ⟨w.heap.size, 3, none⟩) z0).trans f3
  replace f7 := (h4.frozen (p := ⟨w.heap.size + 1 + 1, 0, none⟩) z2).trans f7
  replace f8 := (h4.frozen (p := ⟨w.heap.size + 1 + 1, 1, none⟩) z2).trans f8
  replace f9 := (h4.frozen (p := ⟨w.heap.size + 1 + 1, 2, none⟩) z2).trans f9
  replace f10 := (h4.frozen (p := ⟨w.heap.size + 1 + 1, 3, none⟩) z2).trans f10
  replace z0 := Nat.lt_of_lt_of_le z0 h4.size
  replace z1 := Nat.lt_of_lt_of_le z1 h4.size
  replace z2 := Nat.lt_of_lt_of_le z2 h4.size
  replace B0 : Below w.heap.size w w4 := B0.trans (h4.mono s0)
  replace s0 := B0.size
  clear h4
  go_wp2
  exact bodyPost_ret (v := .tuple #[.agg #[.int .i64 0, .int .i64 0, .int .i64 0, .int .i64 0], .bool false]) (by simp [results, Try.results15, go_sem, c7, c8, c9, c10]) rfl ⟨rfl, (by repeat (first | with_reducible exact Below.refl _ _ | with_reducible exact B0 | with_reducible refine Below.setCell ?_ (by first | omega | (simp; done) | (simp; omega)) _ | with_reducible refine bDrewN ?_ _ | with_reducible refine Below.drew ?_ | with_reducible refine Below.alloc ?_ (by first | omega | (simp; done) | (simp; omega)) _))⟩
set_option maxHeartbeats 2000000 in
theorem implBasin_noI (S I O P full q k d y : Int) (ok : Bool) (s : Option Addr) (n c : Nat) (V : Nat → Int) (w : World) (y1 : -5000000000000 ≤ y) (y2 : y ≤ 5000000000000) (HR : Hid (RowI w s (n * 2) V)) (HA : Hid (∀ s c w, RowI w s (n * 2) V → Calls Try.prog 36 #[.slice s n c, .int .i64 d] w fun e w' => e = .returned (.tuple #[.int .i64 y, .bool ok]) ∧ Below w.heap.size w w')) (h0 : basB S I O P = true) (h12 : watB q k = true) (h3 : inB 0 1000000000000 full = true) (hk : ok = true) (hI : 1000000000000 < I + q) :
    Calls Try.prog 15 #[.agg #[.int .i64 S, .int .i64 I, .int .i64 O, .int .i64 P], .int .i64 full, .slice s n c, .agg #[.int .i64 q, .int .i64 k, .int .i64 d]] w fun e w' => e = .returned (.tuple #[.agg #[.int .i64 0, .int .i64 0, .int .i64 0, .int .i64 0], .bool false]) ∧ Below w.heap.size w w' := by
  subst hk
  obtain ⟨q1, q2⟩ := inB_yes (watB_q h12)
  obtain ⟨k1, k2⟩ := inB_yes (watB_k h12)
  obtain ⟨u1, u2⟩ := inB_yes h3
  obtain ⟨S1, S2, I1, I2, O1, O2, P1, P2⟩ := bas_bounds h0
  go_enter Try.func15, Try.ntmps15
  go_upto_region 1 with fail
  obtain ⟨wd, hwd⟩ : ∃ wd, wd = (((w.alloc (.cells #[.int .i64 S, .int .i64 I, .int .i64 O, .int .i64 P] 25)).alloc (.cells #[.int .i64 q, .int .i64 k, .int .i64 d] 33)).alloc (.cells #[.int .i64 0, .int .i64 0, .int .i64 0, .int .i64 0] 25)) := ⟨_, rfl⟩
  rw [← hwd]
  have c0 : wd.cell? ⟨w.heap.size, 0, none⟩ = some (.int .i64 S) := by rw [hwd]; simp [go_sem]
  have c1 : wd.cell? ⟨w.heap.size, 1, none⟩ = some (.int .i64 I) := by rw [hwd]; simp [go_sem]
  have c2 : wd.cell? ⟨w.heap.size, 2, none⟩ = some (.int .i64 O) := by rw [hwd]; simp [go_sem]
  have c3 : wd.cell? ⟨w.heap.size, 3, none⟩ = some (.int .i64 P) := by rw [hwd]; simp [go_sem]
  have c4 : wd.cell? ⟨w.heap.size + 1, 0, none⟩ = some (.int .i64 q) := by rw [hwd]; simp [go_sem]
  have c5 : wd.cell? ⟨w.heap.size + 1, 1, none⟩ = some (.int .i64 k) := by rw [hwd]; simp [go_sem]
  have c6 : wd.cell? ⟨w.heap.size + 1, 2, none⟩ = some (.int .i64 d) := by rw [hwd]; simp [go_sem]
  have c7 : wd.cell? ⟨w.heap.size + 1 + 1, 0, none⟩ = some (.int .i64 0) := by rw [hwd]; simp [go_sem]
  have c8 : wd.cell? ⟨w.heap.size + 1 + 1, 1, none⟩ = some (.int .i64 0) := by rw [hwd]; simp [go_sem]
  have c9 : wd.cell? ⟨w.heap.size + 1 + 1, 2, none⟩ = some (.int .i64 0) := by rw [hwd]; simp [go_sem]
  have c10 : wd.cell? ⟨w.heap.size + 1 + 1, 3, none⟩ = some (.int .i64 0) := by rw [hwd]; simp [go_sem]
  have f0 : wd.frozen? ⟨w.heap.size, 0, none⟩ = false := by rw [hwd]; simp [go_sem]
  have f1 : wd.frozen? ⟨w.heap.size, 1, none⟩ = false := by rw [hwd]; simp [go_sem]
  have f2 : wd.frozen? ⟨w.heap.size, 2, none⟩ = false := by rw [hwd]; simp [go_sem]
  have f3 : wd.frozen? ⟨w.heap.size, 3, none⟩ = false := by rw [hwd]; simp [go_sem]
  have f7 : wd.frozen? ⟨w.heap.size + 1 + 1, 0, none⟩ = false := by rw [hwd]; simp [go_sem]
  have f8 : wd.frozen? ⟨w.heap.size + 1 + 1, 1, none⟩ = false := by rw [hwd]; simp [go_sem]
  have f9 : wd.frozen? ⟨w.heap.size + 1 + 1, 2, none⟩ = false := by rw [hwd]; simp [go_sem]
  have f10 : wd.frozen? ⟨w.heap.size + 1 + 1, 3, none⟩ = false := by rw [hwd]; simp [go_sem]
  have z0 : w.heap.size < wd.heap.size := by rw [hwd]; simp; omega
  have z1 : w.heap.size + 1 < wd.heap.size := by rw [hwd]; simp
  have z2 : w.heap.size + 1 + 1 < wd.heap.size := by rw [hwd]; simp
  have B0 : Below w.heap.size w wd := by rw [hwd]; exact (by repeat (first | with_reducible exact Below.refl _ _ | with_reducible refine Below.setCell ?_ (by first | omega | (simp; done) | (simp; omega)) _ | with_reducible refine bDrewN ?_ _ | with_reducible refine Below.drew ?_ | with_reducible refine Below.alloc ?_ (by first | omega | (simp; done) | (simp; omega)) _))
  have s0 := B0.size
  clear hwd
  go_wp2_with fail
  refine (right_any _ _ _ _ _).mono ?_
  rintro e w1 ⟨rfl, h1⟩
  replace c0 := (h1.cell (p := ⟨w.heap.size, 0, none⟩) z0).trans c0
  replace c1 := (h1.cell (p := ⟨w.heap.size, 1, none⟩) z0).trans c1
  replace c2 := (h1.cell (p := ⟨w.heap.size, 2, none⟩) z0).trans c2
  replace c3 := (h1.cell (p := ⟨w.heap.size, 3, none⟩) z0).trans c3
  replace c4 := (h1.cell (p := ⟨w.heap.size + 1, 0, none⟩) z1).trans c4
  replace c5 := (h1.cell (p := ⟨w.heap.size + 1, 1, none⟩) z1).trans c5
  replace c6 := (h1.cell (p := ⟨w.heap.size + 1, 2, none⟩) z1).trans c6
  replace c7 := (h1.cell (p := ⟨w.heap.size + 1 + 1, 0, none⟩) z2).trans c7
  replace c8 := (h1.cell (p := ⟨w.heap.size + 1 + 1, 1, none⟩) z2).trans c8
  replace c9 := (h1.cell (p := ⟨w.heap.size + 1 + 1, 2, none⟩) z2).trans c9
  replace c10 := (h1.cell (p := ⟨w.heap.size + 1 + 1, 3, none⟩) z2).trans c10
  replace f0 := (h1.frozen (p := ⟨w.heap.size, 0, none⟩) z0).trans f0
  replace f1 := (h1.frozen (p := ⟨w.heap.size, 1, none⟩) z0).trans f1
  replace f2 := (h1.frozen (p := ⟨w.heap.size, 2, none⟩) z0).trans f2
  replace f3 := (h1.frozen (p := ⟨w.heap.size, 3, none⟩) z0).trans f3
  replace f7 := (h1.frozen (p := ⟨w.heap.size + 1 + 1, 0, none⟩) z2).trans f7
  replace f8 := (h1.frozen (p := ⟨w.heap.size + 1 + 1, 1, none⟩) z2).trans f8
  replace f9 := (h1.frozen (p := ⟨w.heap.size + 1 + 1, 2, none⟩) z2).trans f9
  replace f10 := (h1.frozen (p := ⟨w.heap.size + 1 + 1, 3, none⟩) z2).trans f10
  replace z0 := Nat.lt_of_lt_of_le z0 h1.size
  replace z1 := Nat.lt_of_lt_of_le z1 h1.size
  replace z2 := Nat.lt_of_lt_of_le z2 h1.size
  replace B0 : Below w.heap.size w w1 := B0.trans (h1.mono s0)
  replace s0 := B0.size
  clear h1
  rw [h0]
  go_wp2_with fail
  refine (waterRight_any _ _ _ _).mono ?_
  rintro e w2 ⟨rfl, h2⟩
  replace c0 := (h2.cell (p := ⟨w.heap.size, 0, none⟩) z0).trans c0
  replace c1 := (h2.cell (p := ⟨w.heap.size, 1, none⟩) z0).trans c1
  replace c2 := (h2.cell (p := ⟨w.heap.size, 2, none⟩) z0).trans c2
  replace c3 := (h2.cell (p := ⟨w.heap.size, 3, none⟩) z0).trans c3
  replace c4 := (h2.cell (p := ⟨w.heap.size + 1, 0, none⟩) z1).trans c4
  replace c5 := (h2.cell (p := ⟨w.heap.size + 1, 1, none⟩) z1).trans c5
  replace c6 := (h2.cell (p := ⟨w.heap.size + 1, 2, none⟩) z1).trans c6
  replace c7 := (h2.cell (p := ⟨w.heap.size + 1 + 1, 0, none⟩) z2).trans c7
  replace c8 := (h2.cell (p := ⟨w.heap.size + 1 + 1, 1, none⟩) z2).trans c8
  replace c9 := (h2.cell (p := ⟨w.heap.size + 1 + 1, 2, none⟩) z2).trans c9
  replace c10 := (h2.cell (p := ⟨w.heap.size + 1 + 1, 3, none⟩) z2).trans c10
  replace f0 := (h2.frozen (p := ⟨w.heap.size, 0, none⟩) z0).trans f0
  replace f1 := (h2.frozen (p := ⟨w.heap.size, 1, none⟩) z0).trans f1
  replace f2 := (h2.frozen (p := ⟨w.heap.size, 2, none⟩) z0).trans f2
  replace f3 := (h2.frozen (p := ⟨w.heap.size, 3, none⟩) z0).trans f3
  replace f7 := (h2.frozen (p := ⟨w.heap.size + 1 + 1, 0, none⟩) z2).trans f7
  replace f8 := (h2.frozen (p := ⟨w.heap.size + 1 + 1, 1, none⟩) z2).trans f8
  replace f9 := (h2.frozen (p := ⟨w.heap.size + 1 + 1, 2, none⟩) z2).trans f9
  replace f10 := (h2.frozen (p := ⟨w.heap.size + 1 + 1, 3, none⟩) z2).trans f10
  replace z0 := Nat.lt_of_lt_of_le z0 h2.size
  replace z1 := Nat.lt_of_lt_of_le z1 h2.size
  replace z2 := Nat.lt_of_lt_of_le z2 h2.size
  replace B0 : Below w.heap.size w w2 := B0.trans (h2.mono s0)
  replace s0 := B0.size
  clear h2
  rw [h12]
  go_wp2_with fail
  refine (within_is _ _ _ _).mono ?_
  rintro e w2 ⟨rfl, rfl⟩
  rw [h3]
  have HR1 : Hid (RowI w2 s (n * 2) V) := HR.out.below B0
  go_wp2_with fail
  refine (HA.out _ _ _ HR1.out).mono ?_
  rintro e w4 ⟨rfl, h4⟩
  replace c0 := (h4.cell (p := ⟨w.heap.size, 0, none⟩) z0).trans c0
  replace c1 := (h4.cell (p := ⟨w.heap.size, 1, none⟩) z0).trans c1
  replace c2 := (h4.cell (p := ⟨w.heap.size, 2, none⟩) z0).trans c2
  replace c3 := (h4.cell (p := ⟨w.heap.size, 3, none⟩) z0).trans c3
  replace c4 := (h4.cell (p := ⟨w.heap.size + 1, 0, none⟩) z1).trans c4
  replace c5 := (h4.cell (p := ⟨w.heap.size + 1, 1, none⟩) z1).trans c5
  replace c6 := (h4.cell (p := ⟨w.heap.size + 1, 2, none⟩) z1).trans c6
  replace c7 := (h4.cell (p := ⟨w.heap.size + 1 + 1, 0, none⟩) z2).trans c7
  replace c8 := (h4.cell (p := ⟨w.heap.size + 1 + 1, 1, none⟩) z2).trans c8
  replace c9 := (h4.cell (p := ⟨w.heap.size + 1 + 1, 2, none⟩) z2).trans c9
  replace c10 := (h4.cell (p := ⟨w.heap.size + 1 + 1, 3, none⟩) z2).trans c10
  replace f0 := (h4.frozen (p := ⟨w.heap.size, 0, none⟩) z0).trans f0
  replace f1 := (h4.frozen (p := ⟨w.heap.size, 1, none⟩) z0).trans f1
  replace f2 := (h4.frozen (p := ⟨w.heap.size, 2, none⟩) z0).trans f2
  replace f3 := (h4.frozen (p := ⟨w.heap.size, 3, none⟩) z0).trans f3
  replace f7 := (h4.frozen (p := ⟨w.heap.size + 1 + 1, 0, none⟩) z2).trans f7
  replace f8 := (h4.frozen (p := ⟨w.heap.size + 1 + 1, 1, none⟩) z2).trans f8
  replace f9 := (h4.frozen (p := ⟨w.heap.size + 1 + 1, 2, none⟩) z2).trans f9
  replace f10 := (h4.frozen (p := ⟨w.heap.size + 1 + 1, 3, none⟩) z2).trans f10
  replace z0 := Nat.lt_of_lt_of_le z0 h4.size
  replace z1 := Nat.lt_of_lt_of_le z1 h4.size
  replace z2 := Nat.lt_of_lt_of_le z2 h4.size
  replace B0 : Below w.heap.size w w4 := B0.trans (h4.mono s0)
  replace s0 := B0.size
  clear h4
  have hI2 : 1000000000000 < I + q := hI
  go_wp2
  exact bodyPost_ret (v := .tuple #[.agg #[.int .i64 0, .int .i64 0, .int .i64 0, .int .i64 0], .bool false]) (by simp [results, Try.results15, go_sem, c7, c8, c9, c10]) rfl ⟨rfl, (by repeat (first | with_reducible exact Below.refl _ _ | with_reducible exact B0 | with_reducible refine Below.setCell ?_ (by first | omega | (simp; done) | (simp; omega)) _ | with_reducible refine bDrewN ?_ _ | with_reducible refine Below.drew ?_ | with_reducible refine Below.alloc ?_ (by first | omega | (simp; done) | (simp; omega)) _))⟩
end Go.Proofs.Ytiamhpopgnblcaa
