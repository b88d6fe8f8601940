/-
What is proved: what a step does to a hold, as the specification tells it.
-/
import Derived.Test.YtdpghhgfkhlliaaLs
import Derived.Deep.DeepCutAuto
namespace Go.Proofs.Ytdpghhgfkhlliaa
set_option maxRecDepth 40000
open Go.RowKit
set_option linter.unusedVariables false
set_option linter.unusedSimpArgs false

set_option maxHeartbeats 4000000 in
theorem specStep_no (P I D S L H B : Int) (on : Bool) (u v o want seen : Int) (w : World) (hb : stepB P I D S L H B on u v o want seen = false) : Calls Try.prog 11 #[.agg #[.int .i64 P, .int .i64 I, .int .i64 D, .int .i64 S, .int .i64 L, .int .i64 H, .int .i64 B], .agg #[.bool on, .int .i64 u, .int .i64 v, .int .i64 o], .int .i64 want, .int .i64 seen] w fun e w' => e = .returned (.tuple #[.agg #[.bool false, .int .i64 0, .int .i64 0, .int .i64 0], .bool false]) ∧ Below w.heap.size w w' := by
  unfold stepB at hb
  go_enter Try.func11, Try.ntmps11
  go_upto_region 1 with fail
  obtain ⟨wd, hwd⟩ : ∃ wd, wd = (((w.alloc (.cells #[.int .i64 P, .int .i64 I, .int .i64 D, .int .i64 S, .int .i64 L, .int .i64 H, .int .i64 B] 27)).alloc (.cells #[.bool on, .int .i64 u, .int .i64 v, .int .i64 o] 29)).alloc (.cells #[.bool false, .int .i64 0, .int .i64 0, .int .i64 0] 29)) := ⟨_, rfl⟩
  rw [← hwd]
  have c0 : wd.cell? ⟨w.heap.size, 0, none⟩ = some (.int .i64 P) := by rw [hwd]; simp [go_sem]
  have c1 : wd.cell? ⟨w.heap.size, 1, none⟩ = some (.int .i64 I) := by rw [hwd]; simp [go_sem]
  have c2 : wd.cell? ⟨w.heap.size, 2, none⟩ = some (.int .i64 D) := by rw [hwd]; simp [go_sem]
  have c3 : wd.cell? ⟨w.heap.size, 3, none⟩ = some (.int .i64 S) := by rw [hwd]; simp [go_sem]
  have c4 : wd.cell? ⟨w.heap.size, 4, none⟩ = some (.int .i64 L) := by rw [hwd]; simp [go_sem]
  have c5 : wd.cell? ⟨w.heap.size, 5, none⟩ = some (.int .i64 H) := by rw [hwd]; simp [go_sem]
  have c6 : wd.cell? ⟨w.heap.size, 6, none⟩ = some (.int .i64 B) := by rw [hwd]; simp [go_sem]
  have c7 : wd.cell? ⟨w.heap.size + 1, 0, none⟩ = some (.bool on) := by rw [hwd]; simp [go_sem]
  have c8 : wd.cell? ⟨w.heap.size + 1, 1, none⟩ = some (.int .i64 u) := by rw [hwd]; simp [go_sem]
  have c9 : wd.cell? ⟨w.heap.size + 1, 2, none⟩ = some (.int .i64 v) := by rw [hwd]; simp [go_sem]
  have c10 : wd.cell? ⟨w.heap.size + 1, 3, none⟩ = some (.int .i64 o) := by rw [hwd]; simp [go_sem]
  have c11 : wd.cell? ⟨w.heap.size + 1 + 1, 0, none⟩ = some (.bool false) := by rw [hwd]; simp [go_sem]
  have f11 : wd.frozen? ⟨w.heap.size + 1 + 1, 0, none⟩ = false := by rw [hwd]; simp [go_sem]
  have c12 : wd.cell? ⟨w.heap.size + 1 + 1, 1, none⟩ = some (.int .i64 0) := by rw [hwd]; simp [go_sem]
  have f12 : wd.frozen? ⟨w.heap.size + 1 + 1, 1, none⟩ = false := by rw [hwd]; simp [go_sem]
  have c13 : wd.cell? ⟨w.heap.size + 1 + 1, 2, none⟩ = some (.int .i64 0) := by rw [hwd]; simp [go_sem]
  have f13 : wd.frozen? ⟨w.heap.size + 1 + 1, 2, none⟩ = false := by rw [hwd]; simp [go_sem]
  have c14 : wd.cell? ⟨w.heap.size + 1 + 1, 3, none⟩ = some (.int .i64 0) := by rw [hwd]; simp [go_sem]
  have f14 : wd.frozen? ⟨w.heap.size + 1 + 1, 3, none⟩ = false := by rw [hwd]; simp [go_sem]
  have z0 : w.heap.size < wd.heap.size := by rw [hwd]; (first | (simp; done) | (simp; omega))
  have z1 : w.heap.size + 1 < wd.heap.size := by rw [hwd]; (first | (simp; done) | (simp; omega))
  have z2 : w.heap.size + 1 + 1 < wd.heap.size := by rw [hwd]; (first | (simp; done) | (simp; omega))
  have B0 : Below w.heap.size w wd := by rw [hwd]; exact (by repeat (first | with_reducible exact Below.refl _ _ | with_reducible refine Below.setCell ?_ (by first | omega | (simp; done) | (simp; omega)) _ | with_reducible refine bDrewN ?_ _ | with_reducible refine Below.drew ?_ | with_reducible refine Below.alloc ?_ (by first | omega | (simp; done) | (simp; omega)) _))
  have s0 := B0.size
  clear hwd
  go_wp2_with fail
  refine (specOk_any _ _ _ _ _ _ _ _ _ _ _ _).mono ?_
  rintro e w1 ⟨rfl, h1⟩
  replace c0 := (h1.cell (p := ⟨w.heap.size, 0, none⟩) z0).trans c0
  replace c1 := (h1.cell (p := ⟨w.heap.size, 1, none⟩) z0).trans c1
  replace c2 := (h1.cell (p := ⟨w.heap.size, 2, none⟩) z0).trans c2
  replace c3 := (h1.cell (p := ⟨w.heap.size, 3, none⟩) z0).trans c3
  replace c4 := (h1.cell (p := ⟨w.heap.size, 4, none⟩) z0).trans c4
  replace c5 := (h1.cell (p := ⟨w.heap.size, 5, none⟩) z0).trans c5
  replace c6 := (h1.cell (p := ⟨w.heap.size, 6, none⟩) z0).trans c6
  replace c7 := (h1.cell (p := ⟨w.heap.size + 1, 0, none⟩) z1).trans c7
  replace c8 := (h1.cell (p := ⟨w.heap.size + 1, 1, none⟩) z1).trans c8
  replace c9 := (h1.cell (p := ⟨w.heap.size + 1, 2, none⟩) z1).trans c9
  replace c10 := (h1.cell (p := ⟨w.heap.size + 1, 3, none⟩) z1).trans c10
  replace c11 := (h1.cell (p := ⟨w.heap.size + 1 + 1, 0, none⟩) z2).trans c11
  replace f11 := (h1.frozen (p := ⟨w.heap.size + 1 + 1, 0, none⟩) z2).trans f11
  replace c12 := (h1.cell (p := ⟨w.heap.size + 1 + 1, 1, none⟩) z2).trans c12
  replace f12 := (h1.frozen (p := ⟨w.heap.size + 1 + 1, 1, none⟩) z2).trans f12
  replace c13 := (h1.cell (p := ⟨w.heap.size + 1 + 1, 2, none⟩) z2).trans c13
  replace f13 := (h1.frozen (p := ⟨w.heap.size + 1 + 1, 2, none⟩) z2).trans f13
  replace c14 := (h1.cell (p := ⟨w.heap.size + 1 + 1, 3, none⟩) z2).trans c14
  replace f14 := (h1.frozen (p := ⟨w.heap.size + 1 + 1, 3, none⟩) z2).trans f14
  replace z0 := Nat.lt_of_lt_of_le z0 h1.size
  replace z1 := Nat.lt_of_lt_of_le z1 h1.size
  replace z2 := Nat.lt_of_lt_of_le z2 h1.size
  replace B0 : Below w.heap.size w w1 := B0.trans (h1.mono s0)
  replace s0 := B0.size
  clear h1
  cases k0 : okB P I D S L H B on u v o
  · go_wp2
    exact bodyPost_ret (v := .tuple #[.agg #[.bool false, .int .i64 0, .int .i64 0, .int .i64 0], .bool false]) (by simp [results, Try.results11, go_sem, c11, c12, c13, c14]) rfl ⟨rfl, (by repeat (first | with_reducible exact Below.refl _ _ | with_reducible exact B0 | with_reducible refine Below.setCell ?_ (by first | omega | (simp; done) | (simp; omega)) _ | with_reducible refine bDrewN ?_ _ | with_reducible refine Below.drew ?_ | with_reducible refine Below.alloc ?_ (by first | omega | (simp; done) | (simp; omega)) _))⟩
  rw [k0, Bool.true_and] at hb
  go_wp2_with fail
  refine (l1In_is _ _ _ _).mono ?_
  rintro e w2 ⟨rfl, rfl⟩
  cases k1 : inB (-1000000) 1000000 want
  · go_wp2
    exact bodyPost_ret (v := .tuple #[.agg #[.bool false, .int .i64 0, .int .i64 0, .int .i64 0], .bool false]) (by simp [results, Try.results11, go_sem, c11, c12, c13, c14]) rfl ⟨rfl, (by repeat (first | with_reducible exact Below.refl _ _ | with_reducible exact B0 | with_reducible refine Below.setCell ?_ (by first | omega | (simp; done) | (simp; omega)) _ | with_reducible refine bDrewN ?_ _ | with_reducible refine Below.drew ?_ | with_reducible refine Below.alloc ?_ (by first | omega | (simp; done) | (simp; omega)) _))⟩
  rw [k1, Bool.true_and] at hb
  go_wp2_with fail
  refine (l1In_is _ _ _ _).mono ?_
  rintro e w2 ⟨rfl, rfl⟩
  rw [hb]
  go_wp2
  exact bodyPost_ret (v := .tuple #[.agg #[.bool false, .int .i64 0, .int .i64 0, .int .i64 0], .bool false]) (by simp [results, Try.results11, go_sem, c11, c12, c13, c14]) rfl ⟨rfl, (by repeat (first | with_reducible exact Below.refl _ _ | with_reducible exact B0 | with_reducible refine Below.setCell ?_ (by first | omega | (simp; done) | (simp; omega)) _ | with_reducible refine bDrewN ?_ _ | with_reducible refine Below.drew ?_ | with_reducible refine Below.alloc ?_ (by first | omega | (simp; done) | (simp; omega)) _))⟩
set_option maxHeartbeats 8000000 in
theorem specStep_yes (P I D S L H B : Int) (on : Bool) (u v o want seen : Int) (e d s p1 p2 p3 f x b q z : Int) (w : World) (ok : okB P I D S L H B on u v o = true) (kw : inB (-1000000) 1000000 want = true) (ks : inB (-1000000) 1000000 seen = true) (ee : want - seen = e) (sm : Small P I D S L H B on u v e d s p1 p2 p3 f x b q) (ez : putV s q = z) : Calls Try.prog 11 #[.agg #[.int .i64 P, .int .i64 I, .int .i64 D, .int .i64 S, .int .i64 L, .int .i64 H, .int .i64 B], .agg #[.bool on, .int .i64 u, .int .i64 v, .int .i64 o], .int .i64 want, .int .i64 seen] w fun e' w' => e' = .returned (.tuple #[.agg #[.bool true, .int .i64 z, .int .i64 e, .int .i64 x], .bool true]) ∧ Below w.heap.size w w' := by
  obtain ⟨⟨P1, P2⟩, ⟨I1, I2⟩, ⟨D1, D2⟩, ⟨S1, S2⟩, ⟨B1, B2⟩, ⟨L1, L2⟩, H2⟩ := ok_loop ok
  obtain ⟨kw1, kw2⟩ := inB_yes kw
  obtain ⟨ks1, ks2⟩ := inB_yes ks
  obtain ⟨u1, u2, v1, v2, ed, es, e1, e2, e3, eb, l1, l2, d1, d2, s1, s2, p11, p12, p21, p22, p31, p32, f1, f2, x1, x2, b1, b2, q1, q2, ef, ex, eq⟩ := sm
  obtain ⟨m, em⟩ : ∃ m, (if f < H then f else H) = m := ⟨_, rfl⟩
  have ex2 : (if L < m then m else L) = x := by rw [← ex, ← em]; split <;> split <;> omega
  obtain ⟨k, ek⟩ : ∃ k, (if s + q < 1000000000 then s + q else 1000000000) = k := ⟨_, rfl⟩
  have ez2 : (if -1000000000 < k then k else -1000000000) = z := by rw [← ez, ← ek]; unfold putV; split <;> split <;> omega
  have QF : Hid (∀ w, Calls Try.prog 25 #[.int .i64 (p1 + p2 + p3), .int .i64 S] w fun e w' => e = .returned (.int .i64 f) ∧ w' = w) := fun w => ef ▸ l1Down_any (p1 + p2 + p3) S w (by omega) (by omega) S1 (by omega)
  have QB : Hid (∀ w, Calls Try.prog 25 #[.int .i64 b, .int .i64 10] w fun e w' => e = .returned (.int .i64 q) ∧ w' = w) := fun w => eq ▸ l1Down_any b 10 w (by omega) (by omega) (by omega) (by omega)
  have HE : Hid (chgV on e v = d) := ed
  clear ef ex eq ez ed
  go_enter Try.func11, Try.ntmps11
  go_upto_region 1 with fail
  obtain ⟨wd, hwd⟩ : ∃ wd, wd = (((w.alloc (.cells #[.int .i64 P, .int .i64 I, .int .i64 D, .int .i64 S, .int .i64 L, .int .i64 H, .int .i64 B] 27)).alloc (.cells #[.bool on, .int .i64 u, .int .i64 v, .int .i64 o] 29)).alloc (.cells #[.bool false, .int .i64 0, .int .i64 0, .int .i64 0] 29)) := ⟨_, rfl⟩
  rw [← hwd]
  have c0 : wd.cell? ⟨w.heap.size, 0, none⟩ = some (.int .i64 P) := by rw [hwd]; simp [go_sem]
  have c1 : wd.cell? ⟨w.heap.size, 1, none⟩ = some (.int .i64 I) := by rw [hwd]; simp [go_sem]
  have c2 : wd.cell? ⟨w.heap.size, 2, none⟩ = some (.int .i64 D) := by rw [hwd]; simp [go_sem]
  have c3 : wd.cell? ⟨w.heap.size, 3, none⟩ = some (.int .i64 S) := by rw [hwd]; simp [go_sem]
  have c4 : wd.cell? ⟨w.heap.size, 4, none⟩ = some (.int .i64 L) := by rw [hwd]; simp [go_sem]
  have c5 : wd.cell? ⟨w.heap.size, 5, none⟩ = some (.int .i64 H) := by rw [hwd]; simp [go_sem]
  have c6 : wd.cell? ⟨w.heap.size, 6, none⟩ = some (.int .i64 B) := by rw [hwd]; simp [go_sem]
  have c7 : wd.cell? ⟨w.heap.size + 1, 0, none⟩ = some (.bool on) := by rw [hwd]; simp [go_sem]
  have c8 : wd.cell? ⟨w.heap.size + 1, 1, none⟩ = some (.int .i64 u) := by rw [hwd]; simp [go_sem]
  have c9 : wd.cell? ⟨w.heap.size + 1, 2, none⟩ = some (.int .i64 v) := by rw [hwd]; simp [go_sem]
  have c10 : wd.cell? ⟨w.heap.size + 1, 3, none⟩ = some (.int .i64 o) := by rw [hwd]; simp [go_sem]
  have c11 : wd.cell? ⟨w.heap.size + 1 + 1, 0, none⟩ = some (.bool false) := by rw [hwd]; simp [go_sem]
  have f11 : wd.frozen? ⟨w.heap.size + 1 + 1, 0, none⟩ = false := by rw [hwd]; simp [go_sem]
  have c12 : wd.cell? ⟨w.heap.size + 1 + 1, 1, none⟩ = some (.int .i64 0) := by rw [hwd]; simp [go_sem]
  have f12 : wd.frozen? ⟨w.heap.size + 1 + 1, 1, none⟩ = false := by rw [hwd]; simp [go_sem]
  have c13 : wd.cell? ⟨w.heap.size + 1 + 1, 2, none⟩ = some (.int .i64 0) := by rw [hwd]; simp [go_sem]
  have f13 : wd.frozen? ⟨w.heap.size + 1 + 1, 2, none⟩ = false := by rw [hwd]; simp [go_sem]
  have c14 : wd.cell? ⟨w.heap.size + 1 + 1, 3, none⟩ = some (.int .i64 0) := by rw [hwd]; simp [go_sem]
  have f14 : wd.frozen? ⟨w.heap.size + 1 + 1, 3, none⟩ = false := by rw [hwd]; simp [go_sem]
  have z0 : w.heap.size < wd.heap.size := by rw [hwd]; (first | (simp; done) | (simp; omega))
  have z1 : w.heap.size + 1 < wd.heap.size := by rw [hwd]; (first | (simp; done) | (simp; omega))
  have z2 : w.heap.size + 1 + 1 < wd.heap.size := by rw [hwd]; (first | (simp; done) | (simp; omega))
  have B0 : Below w.heap.size w wd := by rw [hwd]; exact (by repeat (first | with_reducible exact Below.refl _ _ | with_reducible refine Below.setCell ?_ (by first | omega | (simp; done) | (simp; omega)) _ | with_reducible refine bDrewN ?_ _ | with_reducible refine Below.drew ?_ | with_reducible refine Below.alloc ?_ (by first | omega | (simp; done) | (simp; omega)) _))
  have s0 := B0.size
  clear hwd
  go_wp2_with fail
  refine (specOk_any _ _ _ _ _ _ _ _ _ _ _ _).mono ?_
  rintro e' w1 ⟨rfl, h1⟩
  replace c0 := (h1.cell (p := ⟨w.heap.size, 0, none⟩) z0).trans c0
  replace c1 := (h1.cell (p := ⟨w.heap.size, 1, none⟩) z0).trans c1
  replace c2 := (h1.cell (p := ⟨w.heap.size, 2, none⟩) z0).trans c2
  replace c3 := (h1.cell (p := ⟨w.heap.size, 3, none⟩) z0).trans c3
  replace c4 := (h1.cell (p := ⟨w.heap.size, 4, none⟩) z0).trans c4
  replace c5 := (h1.cell (p := ⟨w.heap.size, 5, none⟩) z0).trans c5
  replace c6 := (h1.cell (p := ⟨w.heap.size, 6, none⟩) z0).trans c6
  replace c7 := (h1.cell (p := ⟨w.heap.size + 1, 0, none⟩) z1).trans c7
  replace c8 := (h1.cell (p := ⟨w.heap.size + 1, 1, none⟩) z1).trans c8
  replace c9 := (h1.cell (p := ⟨w.heap.size + 1, 2, none⟩) z1).trans c9
  replace c10 := (h1.cell (p := ⟨w.heap.size + 1, 3, none⟩) z1).trans c10
  replace c11 := (h1.cell (p := ⟨w.heap.size + 1 + 1, 0, none⟩) z2).trans c11
  replace f11 := (h1.frozen (p := ⟨w.heap.size + 1 + 1, 0, none⟩) z2).trans f11
  replace c12 := (h1.cell (p := ⟨w.heap.size + 1 + 1, 1, none⟩) z2).trans c12
  replace f12 := (h1.frozen (p := ⟨w.heap.size + 1 + 1, 1, none⟩) z2).trans f12
  replace c13 := (h1.cell (p := ⟨w.heap.size + 1 + 1, 2, none⟩) z2).trans c13
  replace f13 := (h1.frozen (p := ⟨w.heap.size + 1 + 1, 2, none⟩) z2).trans f13
  replace c14 := (h1.cell (p := ⟨w.heap.size + 1 + 1, 3, none⟩) z2).trans c14
  replace f14 := (h1.frozen (p := ⟨w.heap.size + 1 + 1, 3, none⟩) z2).trans f14
  replace z0 := Nat.lt_of_lt_of_le z0 h1.size
  replace z1 := Nat.lt_of_lt_of_le z1 h1.size
  replace z2 := Nat.lt_of_lt_of_le z2 h1.size
  replace B0 : Below w.heap.size w w1 := B0.trans (h1.mono s0)
  replace s0 := B0.size
  clear h1
  rw [ok]
  go_wp2_with fail
  refine (l1In_is _ _ _ _).mono ?_
  rintro e' w2 ⟨rfl, rfl⟩
  rw [kw]
  go_wp2_with fail
  refine (l1In_is _ _ _ _).mono ?_
  rintro e' w2 ⟨rfl, rfl⟩
  rw [ks]
  clear ok kw ks
  cases on
  all_goals
    have ed := HE.out
    simp only [chgV, if_true, Bool.false_eq_true, if_false] at ed
    (try subst ed)
    go_wp2_with fail
    refine (QF.out _).mono ?_
    rintro e' w2 ⟨rfl, rfl⟩
    go_wp2_with fail
    refine (QB.out _).mono ?_
    rintro e' w2 ⟨rfl, rfl⟩
    go_wp2
    exact bodyPost_ret (v := .tuple #[.agg #[.bool true, .int .i64 z, .int .i64 e, .int .i64 x], .bool true]) (by simp [results, Try.results11, go_sem, c11, c12, c13, c14]) rfl ⟨rfl, (by repeat (first | with_reducible exact Below.refl _ _ | with_reducible exact B0 | with_reducible refine Below.setCell ?_ (by first | omega | (simp; done) | (simp; omega)) _ | with_reducible refine bDrewN ?_ _ | with_reducible refine Below.drew ?_ | with_reducible refine Below.alloc ?_ (by first | omega | (simp; done) | (simp; omega)) _))⟩
theorem specStep_any (P I D S L H B : Int) (on : Bool) (u v o want seen : Int) (w : World) : Calls Try.prog 11 #[.agg #[.int .i64 P, .int .i64 I, .int .i64 D, .int .i64 S, .int .i64 L, .int .i64 H, .int .i64 B], .agg #[.bool on, .int .i64 u, .int .i64 v, .int .i64 o], .int .i64 want, .int .i64 seen] w fun e w' => e = .returned (.tuple #[.agg #[.bool (stepB P I D S L H B on u v o want seen), .int .i64 (nU P I D S L H B on u v o want seen), .int .i64 (nV P I D S L H B on u v o want seen), .int .i64 (nX P I D S L H B on u v o want seen)], .bool (stepB P I D S L H B on u v o want seen)]) ∧ Below w.heap.size w w' := by
  unfold nU nV nX
  cases hb : stepB P I D S L H B on u v o want seen
  · exact specStep_no P I D S L H B on u v o want seen w hb
  · have hb' := hb
    unfold stepB at hb'
    simp only [Bool.and_eq_true] at hb'
    obtain ⟨ok, kw, ks⟩ := hb'
    simp only [if_true]
    obtain ⟨kw1, kw2⟩ := inB_yes kw
    obtain ⟨ks1, ks2⟩ := inB_yes ks
    exact specStep_yes P I D S L H B on u v o want seen _ _ _ _ _ _ _ _ _ _ _ w ok kw ks rfl (small ok (e := want - seen) (by omega) (by omega)) rfl
end Go.Proofs.Ytdpghhgfkhlliaa
