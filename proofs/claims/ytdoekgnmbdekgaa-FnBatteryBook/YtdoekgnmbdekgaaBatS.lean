/-
What is proved: what a step does to a battery, as the specification tells it.
-/
import Derived.Test.YtdoekgnmbdekgaaBat
namespace Go.Proofs.Ytdoekgnmbdekgaa
set_option maxRecDepth 40000
open Go.RowKit
set_option linter.unusedVariables false
set_option linter.unusedSimpArgs false

set_option maxHeartbeats 4000000 in
theorem specBat_no (C M G F load fill : Int) (w : World) (hb : stpB C M G F load fill = false) : Calls Try.prog 14 #[.agg #[.int .i64 C, .int .i64 M, .int .i64 G, .int .i64 F], .int .i64 load, .int .i64 fill] w fun e w' => e = .returned (.tuple #[.agg #[.int .i64 0, .int .i64 0, .int .i64 0, .int .i64 0], .int .i64 0, .bool false]) ∧ Below w.heap.size w w' := by
  unfold stpB at hb
  go_enter Try.func14, Try.ntmps14
  go_upto_region 1 with fail
  obtain ⟨wd, hwd⟩ : ∃ wd, wd = ((w.alloc (.cells #[.int .i64 C, .int .i64 M, .int .i64 G, .int .i64 F] 34)).alloc (.cells #[.int .i64 0, .int .i64 0, .int .i64 0, .int .i64 0] 34)) := ⟨_, rfl⟩
  rw [← hwd]
  have c0 : wd.cell? ⟨w.heap.size, 0, none⟩ = some (.int .i64 C) := by rw [hwd]; simp [go_sem]
  have f0 : wd.frozen? ⟨w.heap.size, 0, none⟩ = false := by rw [hwd]; simp [go_sem]
  have c1 : wd.cell? ⟨w.heap.size, 1, none⟩ = some (.int .i64 M) := by rw [hwd]; simp [go_sem]
  have f1 : wd.frozen? ⟨w.heap.size, 1, none⟩ = false := by rw [hwd]; simp [go_sem]
  have c2 : wd.cell? ⟨w.heap.size, 2, none⟩ = some (.int .i64 G) := by rw [hwd]; simp [go_sem]
  have f2 : wd.frozen? ⟨w.heap.size, 2, none⟩ = false := by rw [hwd]; simp [go_sem]
  have c3 : wd.cell? ⟨w.heap.size, 3, none⟩ = some (.int .i64 F) := by rw [hwd]; simp [go_sem]
  have f3 : wd.frozen? ⟨w.heap.size, 3, none⟩ = false := by rw [hwd]; simp [go_sem]
  have c4 : wd.cell? ⟨w.heap.size + 1, 0, none⟩ = some (.int .i64 0) := by rw [hwd]; simp [go_sem]
  have f4 : wd.frozen? ⟨w.heap.size + 1, 0, none⟩ = false := by rw [hwd]; simp [go_sem]
  have c5 : wd.cell? ⟨w.heap.size + 1, 1, none⟩ = some (.int .i64 0) := by rw [hwd]; simp [go_sem]
  have f5 : wd.frozen? ⟨w.heap.size + 1, 1, none⟩ = false := by rw [hwd]; simp [go_sem]
  have c6 : wd.cell? ⟨w.heap.size + 1, 2, none⟩ = some (.int .i64 0) := by rw [hwd]; simp [go_sem]
  have f6 : wd.frozen? ⟨w.heap.size + 1, 2, none⟩ = false := by rw [hwd]; simp [go_sem]
  have c7 : wd.cell? ⟨w.heap.size + 1, 3, none⟩ = some (.int .i64 0) := by rw [hwd]; simp [go_sem]
  have f7 : wd.frozen? ⟨w.heap.size + 1, 3, none⟩ = false := by rw [hwd]; simp [go_sem]
  have z0 : w.heap.size < wd.heap.size := by rw [hwd]; (first | (simp; done) | (simp; omega))
  have z1 : w.heap.size + 1 < wd.heap.size := by rw [hwd]; (first | (simp; done) | (simp; omega))
  have B0 : Below w.heap.size w wd := by rw [hwd]; exact (by repeat (first | with_reducible exact Below.refl _ _ | with_reducible refine Below.setCell ?_ (by first | omega | (simp; done) | (simp; omega)) _ | with_reducible refine bDrewN ?_ _ | with_reducible refine Below.drew ?_ | with_reducible refine Below.alloc ?_ (by first | omega | (simp; done) | (simp; omega)) _))
  have s0 := B0.size
  clear hwd
  go_wp2_with fail
  refine (l11Battery_any _ _ _ _ _).mono ?_
  rintro e w1 ⟨rfl, h1⟩
  replace c0 := (h1.cell (p := ⟨w.heap.size, 0, none⟩) z0).trans c0
  replace f0 := (h1.frozen (p := ⟨w.heap.size, 0, none⟩) z0).trans f0
  replace c1 := (h1.cell (p := ⟨w.heap.size, 1, none⟩) z0).trans c1
  replace f1 := (h1.frozen (p := ⟨w.heap.size, 1, none⟩) z0).trans f1
  replace c2 := (h1.cell (p := ⟨w.heap.size, 2, none⟩) z0).trans c2
  replace f2 := (h1.frozen (p := ⟨w.heap.size, 2, none⟩) z0).trans f2
  replace c3 := (h1.cell (p := ⟨w.heap.size, 3, none⟩) z0).trans c3
  replace f3 := (h1.frozen (p := ⟨w.heap.size, 3, none⟩) z0).trans f3
  replace c4 := (h1.cell (p := ⟨w.heap.size + 1, 0, none⟩) z1).trans c4
  replace f4 := (h1.frozen (p := ⟨w.heap.size + 1, 0, none⟩) z1).trans f4
  replace c5 := (h1.cell (p := ⟨w.heap.size + 1, 1, none⟩) z1).trans c5
  replace f5 := (h1.frozen (p := ⟨w.heap.size + 1, 1, none⟩) z1).trans f5
  replace c6 := (h1.cell (p := ⟨w.heap.size + 1, 2, none⟩) z1).trans c6
  replace f6 := (h1.frozen (p := ⟨w.heap.size + 1, 2, none⟩) z1).trans f6
  replace c7 := (h1.cell (p := ⟨w.heap.size + 1, 3, none⟩) z1).trans c7
  replace f7 := (h1.frozen (p := ⟨w.heap.size + 1, 3, none⟩) z1).trans f7
  replace z0 := Nat.lt_of_lt_of_le z0 h1.size
  replace z1 := Nat.lt_of_lt_of_le z1 h1.size
  replace B0 : Below w.heap.size w w1 := B0.trans (h1.mono s0)
  replace s0 := B0.size
  clear h1
  cases k0 : batB C M G F
  · go_wp2
    exact bodyPost_ret (v := .tuple #[.agg #[.int .i64 0, .int .i64 0, .int .i64 0, .int .i64 0], .int .i64 0, .bool false]) (by simp [results, Try.results14, go_sem, c4, c5, c6, c7]) rfl ⟨rfl, (by repeat (first | with_reducible exact Below.refl _ _ | with_reducible exact B0 | with_reducible refine Below.setCell ?_ (by first | omega | (simp; done) | (simp; omega)) _ | with_reducible refine bDrewN ?_ _ | with_reducible refine Below.drew ?_ | with_reducible refine Below.alloc ?_ (by first | omega | (simp; done) | (simp; omega)) _))⟩
  rw [k0, Bool.true_and] at hb
  obtain ⟨-, -, ⟨g1, g2⟩, ⟨q1, q2⟩, -⟩ := bat_yes k0
  unfold movB at hb
  go_wp2_with fail
  refine (l1In_is _ _ _ _).mono ?_
  rintro e w2 ⟨rfl, rfl⟩
  cases k1 : inB 0 1000000000 load
  · go_wp2
    exact bodyPost_ret (v := .tuple #[.agg #[.int .i64 0, .int .i64 0, .int .i64 0, .int .i64 0], .int .i64 0, .bool false]) (by simp [results, Try.results14, go_sem, c4, c5, c6, c7]) rfl ⟨rfl, (by repeat (first | with_reducible exact Below.refl _ _ | with_reducible exact B0 | with_reducible refine Below.setCell ?_ (by first | omega | (simp; done) | (simp; omega)) _ | with_reducible refine bDrewN ?_ _ | with_reducible refine Below.drew ?_ | with_reducible refine Below.alloc ?_ (by first | omega | (simp; done) | (simp; omega)) _))⟩
  rw [k1, Bool.true_and] at hb
  go_wp2_with fail
  refine (l1In_is _ _ _ _).mono ?_
  rintro e w2 ⟨rfl, rfl⟩
  cases k2 : inB 0 1000000000 fill
  · go_wp2
    exact bodyPost_ret (v := .tuple #[.agg #[.int .i64 0, .int .i64 0, .int .i64 0, .int .i64 0], .int .i64 0, .bool false]) (by simp [results, Try.results14, go_sem, c4, c5, c6, c7]) rfl ⟨rfl, (by repeat (first | with_reducible exact Below.refl _ _ | with_reducible exact B0 | with_reducible refine Below.setCell ?_ (by first | omega | (simp; done) | (simp; omega)) _ | with_reducible refine bDrewN ?_ _ | with_reducible refine Below.drew ?_ | with_reducible refine Below.alloc ?_ (by first | omega | (simp; done) | (simp; omega)) _))⟩
  rw [k2, Bool.true_and] at hb
  obtain ⟨u1, u2⟩ := inB_yes k1
  obtain ⟨v1, v2⟩ := inB_yes k2
  by_cases l1 : F + fill ≤ 1000000000000
  · have b1 : decide (F + fill ≤ 1000000000000) = true := by simpa using l1
    rw [b1, Bool.true_and] at hb
    have l2 : 1000000000000 < G + load := by have := of_decide_eq_false hb; omega
    go_wp2
    exact bodyPost_ret (v := .tuple #[.agg #[.int .i64 0, .int .i64 0, .int .i64 0, .int .i64 0], .int .i64 0, .bool false]) (by simp [results, Try.results14, go_sem, c4, c5, c6, c7]) rfl ⟨rfl, (by repeat (first | with_reducible exact Below.refl _ _ | with_reducible exact B0 | with_reducible refine Below.setCell ?_ (by first | omega | (simp; done) | (simp; omega)) _ | with_reducible refine bDrewN ?_ _ | with_reducible refine Below.drew ?_ | with_reducible refine Below.alloc ?_ (by first | omega | (simp; done) | (simp; omega)) _))⟩
  · have l2 : 1000000000000 < F + fill := by omega
    go_wp2
    exact bodyPost_ret (v := .tuple #[.agg #[.int .i64 0, .int .i64 0, .int .i64 0, .int .i64 0], .int .i64 0, .bool false]) (by simp [results, Try.results14, go_sem, c4, c5, c6, c7]) rfl ⟨rfl, (by repeat (first | with_reducible exact Below.refl _ _ | with_reducible exact B0 | with_reducible refine Below.setCell ?_ (by first | omega | (simp; done) | (simp; omega)) _ | with_reducible refine bDrewN ?_ _ | with_reducible refine Below.drew ?_ | with_reducible refine Below.alloc ?_ (by first | omega | (simp; done) | (simp; omega)) _))⟩
set_option maxHeartbeats 8000000 in
theorem specBat_yes (C M G F load fill : Int) (m n : Int) (hm : inV C M fill = m) (hn : outB (C + m) load = n) (m0 : 0 ≤ m) (m1 : m ≤ fill) (m2 : m ≤ M - C) (n0 : 0 ≤ n) (n1 : n ≤ load) (n2 : n ≤ C + m) (w : World) (hx : batB C M G F = true) (hy : movB G F load fill = true) : Calls Try.prog 14 #[.agg #[.int .i64 C, .int .i64 M, .int .i64 G, .int .i64 F], .int .i64 load, .int .i64 fill] w fun e w' => e = .returned (.tuple #[.agg #[.int .i64 (C + m - n), .int .i64 M, .int .i64 (G + n), .int .i64 (F + m)], .int .i64 (load - n), .bool true]) ∧ Below w.heap.size w w' := by
  obtain ⟨⟨a1, a2⟩, ⟨a3, a4⟩, ⟨g1, g2⟩, ⟨q1, q2⟩, a5⟩ := bat_yes hx
  obtain ⟨⟨u1, u2⟩, ⟨v1, v2⟩, l1, l2⟩ := mov_yes hy
  have k1 : inB 0 1000000000 load = true := decide_eq_true ⟨u1, u2⟩
  have k2 : inB 0 1000000000 fill = true := decide_eq_true ⟨v1, v2⟩
  clear hy a5
  unfold inV at hm
  unfold outB at hn
  go_enter Try.func14, Try.ntmps14
  go_upto_region 1 with fail
  obtain ⟨wd, hwd⟩ : ∃ wd, wd = ((w.alloc (.cells #[.int .i64 C, .int .i64 M, .int .i64 G, .int .i64 F] 34)).alloc (.cells #[.int .i64 0, .int .i64 0, .int .i64 0, .int .i64 0] 34)) := ⟨_, rfl⟩
  rw [← hwd]
  have c0 : wd.cell? ⟨w.heap.size, 0, none⟩ = some (.int .i64 C) := by rw [hwd]; simp [go_sem]
  have f0 : wd.frozen? ⟨w.heap.size, 0, none⟩ = false := by rw [hwd]; simp [go_sem]
  have c1 : wd.cell? ⟨w.heap.size, 1, none⟩ = some (.int .i64 M) := by rw [hwd]; simp [go_sem]
  have f1 : wd.frozen? ⟨w.heap.size, 1, none⟩ = false := by rw [hwd]; simp [go_sem]
  have c2 : wd.cell? ⟨w.heap.size, 2, none⟩ = some (.int .i64 G) := by rw [hwd]; simp [go_sem]
  have f2 : wd.frozen? ⟨w.heap.size, 2, none⟩ = false := by rw [hwd]; simp [go_sem]
  have c3 : wd.cell? ⟨w.heap.size, 3, none⟩ = some (.int .i64 F) := by rw [hwd]; simp [go_sem]
  have f3 : wd.frozen? ⟨w.heap.size, 3, none⟩ = false := by rw [hwd]; simp [go_sem]
  have c4 : wd.cell? ⟨w.heap.size + 1, 0, none⟩ = some (.int .i64 0) := by rw [hwd]; simp [go_sem]
  have f4 : wd.frozen? ⟨w.heap.size + 1, 0, none⟩ = false := by rw [hwd]; simp [go_sem]
  have c5 : wd.cell? ⟨w.heap.size + 1, 1, none⟩ = some (.int .i64 0) := by rw [hwd]; simp [go_sem]
  have f5 : wd.frozen? ⟨w.heap.size + 1, 1, none⟩ = false := by rw [hwd]; simp [go_sem]
  have c6 : wd.cell? ⟨w.heap.size + 1, 2, none⟩ = some (.int .i64 0) := by rw [hwd]; simp [go_sem]
  have f6 : wd.frozen? ⟨w.heap.size + 1, 2, none⟩ = false := by rw [hwd]; simp [go_sem]
  have c7 : wd.cell? ⟨w.heap.size + 1, 3, none⟩ = some (.int .i64 0) := by rw [hwd]; simp [go_sem]
  have f7 : wd.frozen? ⟨w.heap.size + 1, 3, none⟩ = false := by rw [hwd]; simp [go_sem]
  have z0 : w.heap.size < wd.heap.size := by rw [hwd]; (first | (simp; done) | (simp; omega))
  have z1 : w.heap.size + 1 < wd.heap.size := by rw [hwd]; (first | (simp; done) | (simp; omega))
  have B0 : Below w.heap.size w wd := by rw [hwd]; exact (by repeat (first | with_reducible exact Below.refl _ _ | with_reducible refine Below.setCell ?_ (by first | omega | (simp; done) | (simp; omega)) _ | with_reducible refine bDrewN ?_ _ | with_reducible refine Below.drew ?_ | with_reducible refine Below.alloc ?_ (by first | omega | (simp; done) | (simp; omega)) _))
  have s0 := B0.size
  clear hwd
  go_wp2_with fail
  refine (l11Battery_any _ _ _ _ _).mono ?_
  rintro e w1 ⟨rfl, h1⟩
  replace c0 := (h1.cell (p := ⟨w.heap.size, 0, none⟩) z0).trans c0
  replace f0 := (h1.frozen (p := ⟨w.heap.size, 0, none⟩) z0).trans f0
  replace c1 := (h1.cell (p := ⟨w.heap.size, 1, none⟩) z0).trans c1
  replace f1 := (h1.frozen (p := ⟨w.heap.size, 1, none⟩) z0).trans f1
  replace c2 := (h1.cell (p := ⟨w.heap.size, 2, none⟩) z0).trans c2
  replace f2 := (h1.frozen (p := ⟨w.heap.size, 2, none⟩) z0).trans f2
  replace c3 := (h1.cell (p := ⟨w.heap.size, 3, none⟩) z0).trans c3
  replace f3 := (h1.frozen (p := ⟨w.heap.size, 3, none⟩) z0).trans f3
  replace c4 := (h1.cell (p := ⟨w.heap.size + 1, 0, none⟩) z1).trans c4
  replace f4 := (h1.frozen (p := ⟨w.heap.size + 1, 0, none⟩) z1).trans f4
  replace c5 := (h1.cell (p := ⟨w.heap.size + 1, 1, none⟩) z1).trans c5
  replace f5 := (h1.frozen (p := ⟨w.heap.size + 1, 1, none⟩) z1).trans f5
  replace c6 := (h1.cell (p := ⟨w.heap.size + 1, 2, none⟩) z1).trans c6
  replace f6 := (h1.frozen (p := ⟨w.heap.size + 1, 2, none⟩) z1).trans f6
  replace c7 := (h1.cell (p := ⟨w.heap.size + 1, 3, none⟩) z1).trans c7
  replace f7 := (h1.frozen (p := ⟨w.heap.size + 1, 3, none⟩) z1).trans f7
  replace z0 := Nat.lt_of_lt_of_le z0 h1.size
  replace z1 := Nat.lt_of_lt_of_le z1 h1.size
  replace B0 : Below w.heap.size w w1 := B0.trans (h1.mono s0)
  replace s0 := B0.size
  clear h1
  rw [hx]
  clear hx
  go_wp2_with fail
  refine (l1In_is _ _ _ _).mono ?_
  rintro e w2 ⟨rfl, rfl⟩
  rw [k1]
  go_wp2_with fail
  refine (l1In_is _ _ _ _).mono ?_
  rintro e w2 ⟨rfl, rfl⟩
  rw [k2]
  clear k1 k2
  go_wp2
  exact bodyPost_ret (v := .tuple #[.agg #[.int .i64 (C + m - n), .int .i64 M, .int .i64 (G + n), .int .i64 (F + m)], .int .i64 (load - n), .bool true]) (by simp [results, Try.results14, go_sem, c4, c5, c6, c7]) rfl ⟨rfl, (by repeat (first | with_reducible exact Below.refl _ _ | with_reducible exact B0 | with_reducible refine Below.setCell ?_ (by first | omega | (simp; done) | (simp; omega)) _ | with_reducible refine bDrewN ?_ _ | with_reducible refine Below.drew ?_ | with_reducible refine Below.alloc ?_ (by first | omega | (simp; done) | (simp; omega)) _))⟩
theorem specBat_any (C M G F load fill : Int) (w : World) : Calls Try.prog 14 #[.agg #[.int .i64 C, .int .i64 M, .int .i64 G, .int .i64 F], .int .i64 load, .int .i64 fill] w fun e w' => e = .returned (.tuple #[.agg #[.int .i64 (nC C M G F load fill), .int .i64 (nM C M G F load fill), .int .i64 (nG C M G F load fill), .int .i64 (nF C M G F load fill)], .int .i64 (nL C M G F load fill), .bool (stpB C M G F load fill)]) ∧ Below w.heap.size w w' := by
  unfold nC nM nG nF nL
  cases hb : stpB C M G F load fill
  · exact specBat_no C M G F load fill w hb
  · have hb2 := hb
    unfold stpB at hb2
    simp only [Bool.and_eq_true] at hb2
    obtain ⟨hx, hy⟩ := hb2
    obtain ⟨⟨c1, c2⟩, -⟩ := bat_yes hx
    obtain ⟨⟨u1, u2⟩, ⟨v1, v2⟩, -⟩ := mov_yes hy
    obtain ⟨m0, m1, m2⟩ := in_is C M fill c2 v1
    obtain ⟨n0, n1, n2⟩ := out_is (C + inV C M fill) load (by omega) u1
    simp only [if_true]
    exact specBat_yes C M G F load fill _ _ rfl rfl m0 m1 m2 n0 n1 n2 w hx hy
end Go.Proofs.Ytdoekgnmbdekgaa
