/-
What is proved: what a step does to a battery, as the program tells it.
-/
import Derived.Test.YtdoekgnmbdekgaaBat
import Derived.RegionTactic
namespace Go.Proofs.Ytdoekgnmbdekgaa
set_option maxRecDepth 40000
open Go.RowKit
set_option linter.unusedVariables false
set_option linter.unusedSimpArgs false

/-- A battery in its block. -/
def BatAt (w : World) (p : Nat) (x0 x1 x2 x3 : Int) : Prop := p < w.heap.size ∧ (∀ o, w.frozen? ⟨p, o, none⟩ = false) ∧ w.cell? ⟨p, 0, none⟩ = some (.int .i64 x0) ∧ w.cell? ⟨p, 1, none⟩ = some (.int .i64 x1) ∧ w.cell? ⟨p, 2, none⟩ = some (.int .i64 x2) ∧ w.cell? ⟨p, 3, none⟩ = some (.int .i64 x3)
theorem BatAt.below {w w' : World} {p : Nat} {x0 x1 x2 x3 : Int} (h : BatAt w p x0 x1 x2 x3) (hb : Below w.heap.size w w') : BatAt w' p x0 x1 x2 x3 := by
  obtain ⟨h1, h2, c0, c1, c2, c3⟩ := h
  exact ⟨Nat.lt_of_lt_of_le h1 hb.size, fun o => (hb.frozen (p := ⟨p, o, none⟩) h1).trans (h2 o), (hb.cell (p := ⟨p, 0, none⟩) h1).trans c0, (hb.cell (p := ⟨p, 1, none⟩) h1).trans c1, (hb.cell (p := ⟨p, 2, none⟩) h1).trans c2, (hb.cell (p := ⟨p, 3, none⟩) h1).trans c3⟩
theorem BatAt.set0 {w : World} {p : Nat} {x0 x1 x2 x3 : Int} (h : BatAt w p x0 x1 x2 x3) (v : Int) : BatAt (w.setCell ⟨p, 0, none⟩ (.int .i64 v)) p v x1 x2 x3 := by
  obtain ⟨h1, h2, c0, c1, c2, c3⟩ := h
  refine ⟨by simpa using h1, fun o => by simp [go_sem, h2], ?_, ?_, ?_, ?_⟩
  · simp [go_sem, c0]
  · simp [go_sem, c1]
  · simp [go_sem, c2]
  · simp [go_sem, c3]
theorem BatAt.set2 {w : World} {p : Nat} {x0 x1 x2 x3 : Int} (h : BatAt w p x0 x1 x2 x3) (v : Int) : BatAt (w.setCell ⟨p, 2, none⟩ (.int .i64 v)) p x0 x1 v x3 := by
  obtain ⟨h1, h2, c0, c1, c2, c3⟩ := h
  refine ⟨by simpa using h1, fun o => by simp [go_sem, h2], ?_, ?_, ?_, ?_⟩
  · simp [go_sem, c0]
  · simp [go_sem, c1]
  · simp [go_sem, c2]
  · simp [go_sem, c3]
theorem BatAt.set3 {w : World} {p : Nat} {x0 x1 x2 x3 : Int} (h : BatAt w p x0 x1 x2 x3) (v : Int) : BatAt (w.setCell ⟨p, 3, none⟩ (.int .i64 v)) p x0 x1 x2 v := by
  obtain ⟨h1, h2, c0, c1, c2, c3⟩ := h
  refine ⟨by simpa using h1, fun o => by simp [go_sem, h2], ?_, ?_, ?_, ?_⟩
  · simp [go_sem, c0]
  · simp [go_sem, c1]
  · simp [go_sem, c2]
  · simp [go_sem, c3]
set_option maxHeartbeats 1000000 in
theorem take_any (p : Nat) (C M G F fill m : Int) (w : World) (h : BatAt w p C M G F) (hm : inV C M fill = m) (m0 : 0 ≤ m) (m1 : m ≤ fill) (m2 : m ≤ M - C) (a1 : 0 ≤ C) (a2 : C ≤ M) (a4 : M ≤ 1000000000000) (q1 : 0 ≤ F) (q2 : F ≤ 1000000000000) (v2 : fill ≤ 1000000000) :
    Calls Try.prog 34 #[.pointer (some ⟨p, 0, none⟩), .int .i64 fill] w fun e w' => e = .returned (.tuple #[]) ∧ BatAt w' p (C + m) M G (F + m) ∧ Beside p w w' := by
  have HD : Hid (BatAt w p C M G F) := h
  obtain ⟨hp, hf, c0, c1, c2, c3⟩ := h
  unfold inV at hm
  go_enter Try.func34, Try.ntmps34
  go_wp2_with fail
  go_region
  all_goals
    go_wp2
    go_end0
    exact ⟨rfl, BatAt.below ((HD.out.set0 _).set3 _) (by repeat (first | with_reducible exact Below.refl _ _ | with_reducible refine Below.setCell ?_ (by first | omega | (simp; done) | (simp; omega)) _ | with_reducible refine bDrewN ?_ _ | with_reducible refine Below.drew ?_ | with_reducible refine Below.alloc ?_ (by first | omega | (simp; done) | (simp; omega)) _)), ((Beside.setCell p _ 0 _).trans (Beside.setCell p _ 3 _)).trans (Beside.of (by repeat (first | with_reducible exact Below.refl _ _ | with_reducible refine Below.setCell ?_ (by first | omega | (simp; done) | (simp; omega)) _ | with_reducible refine bDrewN ?_ _ | with_reducible refine Below.drew ?_ | with_reducible refine Below.alloc ?_ (by first | omega | (simp; done) | (simp; omega)) _)))⟩
set_option maxHeartbeats 1000000 in
theorem give_any (p : Nat) (C M G F load n : Int) (w : World) (h : BatAt w p C M G F) (hn : outB C load = n) (n0 : 0 ≤ n) (n1 : n ≤ load) (n2 : n ≤ C) (a2 : C ≤ 2000000000000) (g1 : 0 ≤ G) (g2 : G ≤ 1000000000000) :
    Calls Try.prog 35 #[.pointer (some ⟨p, 0, none⟩), .int .i64 load] w fun e w' => e = .returned (.int .i64 n) ∧ BatAt w' p (C - n) M (G + n) F ∧ Beside p w w' := by
  have HD : Hid (BatAt w p C M G F) := h
  obtain ⟨hp, hf, c0, c1, c2, c3⟩ := h
  unfold outB at hn
  go_enter Try.func35, Try.ntmps35
  go_wp2
  go_ret
  exact ⟨rfl, (HD.out.set0 _).set2 _, (Beside.setCell p _ 0 _).trans (Beside.setCell p _ 2 _)⟩
set_option maxHeartbeats 4000000 in
theorem implBat_no (C M G F load fill : Int) (w : World) (hb : stpB C M G F load fill = false) : Calls Try.prog 16 #[.agg #[.int .i64 C, .int .i64 M, .int .i64 G, .int .i64 F], .int .i64 load, .int .i64 fill] w fun e w' => e = .returned (.tuple #[.agg #[.int .i64 0, .int .i64 0, .int .i64 0, .int .i64 0], .int .i64 0, .bool false]) ∧ Below w.heap.size w w' := by
  unfold stpB at hb
  go_enter Try.func16, Try.ntmps16
  go_upto_region 1 with fail
  obtain ⟨wd, hwd⟩ : ∃ wd, wd = ((w.alloc (.cells #[.int .i64 C, .int .i64 M, .int .i64 G, .int .i64 F] 34)).alloc (.cells #[.int .i64 0, .int .i64 0, .int .i64 0, .int .i64 0] 34)) := ⟨_, rfl⟩
  rw [← hwd]
  have c0 : wd.cell? ⟨w.heap.size, 0, none⟩ = some (.int .i64 C) := by rw [hwd]; simp [go_sem]
  have f0 : wd.frozen? ⟨w.heap.size, 0, none⟩ = false := by rw [hwd]; simp [go_sem]
  have c1 : wd.cell? ⟨w.heap.size, 1, none⟩ = some (.int .i64 M) := by rw [hwd]; simp [go_sem]
  have f1 : wd.frozen? ⟨w.heap.size, 1, none⟩ = false := by rw [hwd]; simp [go_sem]
  have c2 : wd.cell? ⟨w.heap.size, 2, none⟩ = some (.int .i64 G) := by rw [hwd]; simp [go_sem]
  have f2 : wd.frozen? ⟨w.heap.size, 2, none⟩ = false := by rw [hwd]; simp [go_sem]
  have c3 : wd.cell? ⟨w.heap.size, 3, none⟩ = some (.int .i64 F) := by rw [hwd]; simp [go_sem]
  have f3 : wd.frozen? ⟨w.heap.size, 3, none⟩ = false := by rw [hwd]; simp [go_sem]
  have c4 : wd.cell? ⟨w.heap.size + 1, 0, none⟩ = some (.int .i64 0) := by rw [hwd]; simp [go_sem]
  have f4 : wd.frozen? ⟨w.heap.size + 1, 0, none⟩ = false := by rw [hwd]; simp [go_sem]
  have c5 : wd.cell? ⟨w.heap.size + 1, 1, none⟩ = some (.int .i64 0) := by rw [hwd]; simp [go_sem]
  have f5 : wd.frozen? ⟨w.heap.size + 1, 1, none⟩ = false := by rw [hwd]; simp [go_sem]
  have c6 : wd.cell? ⟨w.heap.size + 1, 2, none⟩ = some (.int .i64 0) := by rw [hwd]; simp [go_sem]
  have f6 : wd.frozen? ⟨w.heap.size + 1, 2, none⟩ = false := by rw [hwd]; simp [go_sem]
  have c7 : wd.cell? ⟨w.heap.size + 1, 3, none⟩ = some (.int .i64 0) := by rw [hwd]; simp [go_sem]
  have f7 : wd.frozen? ⟨w.heap.size + 1, 3, none⟩ = false := by rw [hwd]; simp [go_sem]
  have z0 : w.heap.size < wd.heap.size := by rw [hwd]; (first | (simp; done) | (simp; omega))
  have z1 : w.heap.size + 1 < wd.heap.size := by rw [hwd]; (first | (simp; done) | (simp; omega))
  have B0 : Below w.heap.size w wd := by rw [hwd]; exact (by repeat (first | with_reducible exact Below.refl _ _ | with_reducible refine Below.setCell ?_ (by first | omega | (simp; done) | (simp; omega)) _ | with_reducible refine bDrewN ?_ _ | with_reducible refine Below.drew ?_ | with_reducible refine Below.alloc ?_ (by first | omega | (simp; done) | (simp; omega)) _))
  have s0 := B0.size
  clear hwd
  go_wp2_with fail
  refine (batRight_any _ _ _ _ _).mono ?_
  rintro e w1 ⟨rfl, h1⟩
  replace c0 := (h1.cell (p := ⟨w.heap.size, 0, none⟩) z0).trans c0
  replace f0 := (h1.frozen (p := ⟨w.heap.size, 0, none⟩) z0).trans f0
  replace c1 := (h1.cell (p := ⟨w.heap.size, 1, none⟩) z0).trans c1
  replace f1 := (h1.frozen (p := ⟨w.heap.size, 1, none⟩) z0).trans f1
  replace c2 := (h1.cell (p := ⟨w.heap.size, 2, none⟩) z0).trans c2
  replace f2 := (h1.frozen (p := ⟨w.heap.size, 2, none⟩) z0).trans f2
  replace c3 := (h1.cell (p := ⟨w.heap.size, 3, none⟩) z0).trans c3
  replace f3 := (h1.frozen (p := ⟨w.heap.size, 3, none⟩) z0).trans f3
  replace c4 := (h1.cell (p := ⟨w.heap.size + 1, 0, none⟩) z1).trans c4
  replace f4 := (h1.frozen (p := ⟨w.heap.size + 1, 0, none⟩) z1).trans f4
  replace c5 := (h1.cell (p := ⟨w.heap.size + 1, 1, none⟩) z1).trans c5
  replace f5 := (h1.frozen (p := ⟨w.heap.size + 1, 1, none⟩) z1).trans f5
  replace c6 := (h1.cell (p := ⟨w.heap.size + 1, 2, none⟩) z1).trans c6
  replace f6 := (h1.frozen (p := ⟨w.heap.size + 1, 2, none⟩) z1).trans f6
  replace c7 := (h1.cell (p := ⟨w.heap.size + 1, 3, none⟩) z1).trans c7
  replace f7 := (h1.frozen (p := ⟨w.heap.size + 1, 3, none⟩) z1).trans f7
  replace z0 := Nat.lt_of_lt_of_le z0 h1.size
  replace z1 := Nat.lt_of_lt_of_le z1 h1.size
  replace B0 : Below w.heap.size w w1 := B0.trans (h1.mono s0)
  replace s0 := B0.size
  clear h1
  cases k0 : batB C M G F
  · go_wp2
    exact bodyPost_ret (v := .tuple #[.agg #[.int .i64 0, .int .i64 0, .int .i64 0, .int .i64 0], .int .i64 0, .bool false]) (by simp [results, Try.results16, go_sem, c4, c5, c6, c7]) rfl ⟨rfl, (by repeat (first | with_reducible exact Below.refl _ _ | with_reducible exact B0 | with_reducible refine Below.setCell ?_ (by first | omega | (simp; done) | (simp; omega)) _ | with_reducible refine bDrewN ?_ _ | with_reducible refine Below.drew ?_ | with_reducible refine Below.alloc ?_ (by first | omega | (simp; done) | (simp; omega)) _))⟩
  rw [k0, Bool.true_and] at hb
  go_wp2_with fail
  refine (bookTakes_any _ _ _ _ _ _ _ k0).mono ?_
  rintro e w1 ⟨rfl, h1⟩
  replace c0 := (h1.cell (p := ⟨w.heap.size, 0, none⟩) z0).trans c0
  replace f0 := (h1.frozen (p := ⟨w.heap.size, 0, none⟩) z0).trans f0
  replace c1 := (h1.cell (p := ⟨w.heap.size, 1, none⟩) z0).trans c1
  replace f1 := (h1.frozen (p := ⟨w.heap.size, 1, none⟩) z0).trans f1
  replace c2 := (h1.cell (p := ⟨w.heap.size, 2, none⟩) z0).trans c2
  replace f2 := (h1.frozen (p := ⟨w.heap.size, 2, none⟩) z0).trans f2
  replace c3 := (h1.cell (p := ⟨w.heap.size, 3, none⟩) z0).trans c3
  replace f3 := (h1.frozen (p := ⟨w.heap.size, 3, none⟩) z0).trans f3
  replace c4 := (h1.cell (p := ⟨w.heap.size + 1, 0, none⟩) z1).trans c4
  replace f4 := (h1.frozen (p := ⟨w.heap.size + 1, 0, none⟩) z1).trans f4
  replace c5 := (h1.cell (p := ⟨w.heap.size + 1, 1, none⟩) z1).trans c5
  replace f5 := (h1.frozen (p := ⟨w.heap.size + 1, 1, none⟩) z1).trans f5
  replace c6 := (h1.cell (p := ⟨w.heap.size + 1, 2, none⟩) z1).trans c6
  replace f6 := (h1.frozen (p := ⟨w.heap.size + 1, 2, none⟩) z1).trans f6
  replace c7 := (h1.cell (p := ⟨w.heap.size + 1, 3, none⟩) z1).trans c7
  replace f7 := (h1.frozen (p := ⟨w.heap.size + 1, 3, none⟩) z1).trans f7
  replace z0 := Nat.lt_of_lt_of_le z0 h1.size
  replace z1 := Nat.lt_of_lt_of_le z1 h1.size
  replace B0 : Below w.heap.size w w1 := B0.trans (h1.mono s0)
  replace s0 := B0.size
  clear h1
  rw [hb]
  go_wp2
  exact bodyPost_ret (v := .tuple #[.agg #[.int .i64 0, .int .i64 0, .int .i64 0, .int .i64 0], .int .i64 0, .bool false]) (by simp [results, Try.results16, go_sem, c4, c5, c6, c7]) rfl ⟨rfl, (by repeat (first | with_reducible exact Below.refl _ _ | with_reducible exact B0 | with_reducible refine Below.setCell ?_ (by first | omega | (simp; done) | (simp; omega)) _ | with_reducible refine bDrewN ?_ _ | with_reducible refine Below.drew ?_ | with_reducible refine Below.alloc ?_ (by first | omega | (simp; done) | (simp; omega)) _))⟩
set_option maxHeartbeats 8000000 in
theorem implBat_yes (C M G F load fill : Int) (m n : Int) (hm : inV C M fill = m) (hn : outB (C + m) load = n) (m0 : 0 ≤ m) (m1 : m ≤ fill) (m2 : m ≤ M - C) (n0 : 0 ≤ n) (n1 : n ≤ load) (n2 : n ≤ C + m) (w : World) (hx : batB C M G F = true) (hy : movB G F load fill = true) : Calls Try.prog 16 #[.agg #[.int .i64 C, .int .i64 M, .int .i64 G, .int .i64 F], .int .i64 load, .int .i64 fill] w fun e w' => e = .returned (.tuple #[.agg #[.int .i64 (C + m - n), .int .i64 M, .int .i64 (G + n), .int .i64 (F + m)], .int .i64 (load - n), .bool true]) ∧ Below w.heap.size w w' := by
  obtain ⟨⟨a1, a2⟩, ⟨a3, a4⟩, ⟨g1, g2⟩, ⟨q1, q2⟩, a5⟩ := bat_yes hx
  obtain ⟨⟨u1, u2⟩, ⟨v1, v2⟩, l1, l2⟩ := mov_yes hy
  have TK : Hid (∀ p w, BatAt w p C M G F → Calls Try.prog 34 #[.pointer (some ⟨p, 0, none⟩), .int .i64 fill] w fun e w' => e = .returned (.tuple #[]) ∧ BatAt w' p (C + m) M G (F + m) ∧ Beside p w w') := fun p w h => take_any p C M G F fill m w h hm m0 m1 m2 a1 a2 a4 q1 q2 v2
  have GV : Hid (∀ p w, BatAt w p (C + m) M G (F + m) → Calls Try.prog 35 #[.pointer (some ⟨p, 0, none⟩), .int .i64 load] w fun e w' => e = .returned (.int .i64 n) ∧ BatAt w' p (C + m - n) M (G + n) (F + m) ∧ Beside p w w') := fun p w h => give_any p (C + m) M G (F + m) load n w h hn n0 n1 n2 (by omega) g1 g2
  clear hm hn a5
  go_enter Try.func16, Try.ntmps16
  go_upto_region 1 with fail
  obtain ⟨wd, hwd⟩ : ∃ wd, wd = ((w.alloc (.cells #[.int .i64 C, .int .i64 M, .int .i64 G, .int .i64 F] 34)).alloc (.cells #[.int .i64 0, .int .i64 0, .int .i64 0, .int .i64 0] 34)) := ⟨_, rfl⟩
  rw [← hwd]
  have fz : ∀ o, wd.frozen? ⟨w.heap.size, o, none⟩ = false := fun o => by rw [hwd]; simp [go_sem]
  have c0 : wd.cell? ⟨w.heap.size, 0, none⟩ = some (.int .i64 C) := by rw [hwd]; simp [go_sem]
  have f0 : wd.frozen? ⟨w.heap.size, 0, none⟩ = false := by rw [hwd]; simp [go_sem]
  have c1 : wd.cell? ⟨w.heap.size, 1, none⟩ = some (.int .i64 M) := by rw [hwd]; simp [go_sem]
  have f1 : wd.frozen? ⟨w.heap.size, 1, none⟩ = false := by rw [hwd]; simp [go_sem]
  have c2 : wd.cell? ⟨w.heap.size, 2, none⟩ = some (.int .i64 G) := by rw [hwd]; simp [go_sem]
  have f2 : wd.frozen? ⟨w.heap.size, 2, none⟩ = false := by rw [hwd]; simp [go_sem]
  have c3 : wd.cell? ⟨w.heap.size, 3, none⟩ = some (.int .i64 F) := by rw [hwd]; simp [go_sem]
  have f3 : wd.frozen? ⟨w.heap.size, 3, none⟩ = false := by rw [hwd]; simp [go_sem]
  have c4 : wd.cell? ⟨w.heap.size + 1, 0, none⟩ = some (.int .i64 0) := by rw [hwd]; simp [go_sem]
  have f4 : wd.frozen? ⟨w.heap.size + 1, 0, none⟩ = false := by rw [hwd]; simp [go_sem]
  have c5 : wd.cell? ⟨w.heap.size + 1, 1, none⟩ = some (.int .i64 0) := by rw [hwd]; simp [go_sem]
  have f5 : wd.frozen? ⟨w.heap.size + 1, 1, none⟩ = false := by rw [hwd]; simp [go_sem]
  have c6 : wd.cell? ⟨w.heap.size + 1, 2, none⟩ = some (.int .i64 0) := by rw [hwd]; simp [go_sem]
  have f6 : wd.frozen? ⟨w.heap.size + 1, 2, none⟩ = false := by rw [hwd]; simp [go_sem]
  have c7 : wd.cell? ⟨w.heap.size + 1, 3, none⟩ = some (.int .i64 0) := by rw [hwd]; simp [go_sem]
  have f7 : wd.frozen? ⟨w.heap.size + 1, 3, none⟩ = false := by rw [hwd]; simp [go_sem]
  have z0 : w.heap.size < wd.heap.size := by rw [hwd]; (first | (simp; done) | (simp; omega))
  have z1 : w.heap.size + 1 < wd.heap.size := by rw [hwd]; (first | (simp; done) | (simp; omega))
  have B0 : Below w.heap.size w wd := by rw [hwd]; exact (by repeat (first | with_reducible exact Below.refl _ _ | with_reducible refine Below.setCell ?_ (by first | omega | (simp; done) | (simp; omega)) _ | with_reducible refine bDrewN ?_ _ | with_reducible refine Below.drew ?_ | with_reducible refine Below.alloc ?_ (by first | omega | (simp; done) | (simp; omega)) _))
  have s0 := B0.size
  clear hwd
  go_wp2_with fail
  refine (batRight_any _ _ _ _ _).mono ?_
  rintro e w1 ⟨rfl, h1⟩
  replace fz : ∀ o, w1.frozen? ⟨w.heap.size, o, none⟩ = false := fun o => (h1.frozen (p := ⟨w.heap.size, o, none⟩) z0).trans (fz o)
  replace c0 := (h1.cell (p := ⟨w.heap.size, 0, none⟩) z0).trans c0
  replace f0 := (h1.frozen (p := ⟨w.heap.size, 0, none⟩) z0).trans f0
  replace c1 := (h1.cell (p := ⟨w.heap.size, 1, none⟩) z0).trans c1
  replace f1 := (h1.frozen (p := ⟨w.heap.size, 1, none⟩) z0).trans f1
  replace c2 := (h1.cell (p := ⟨w.heap.size, 2, none⟩) z0).trans c2
  replace f2 := (h1.frozen (p := ⟨w.heap.size, 2, none⟩) z0).trans f2
  replace c3 := (h1.cell (p := ⟨w.heap.size, 3, none⟩) z0).trans c3
  replace f3 := (h1.frozen (p := ⟨w.heap.size, 3, none⟩) z0).trans f3
  replace c4 := (h1.cell (p := ⟨w.heap.size + 1, 0, none⟩) z1).trans c4
  replace f4 := (h1.frozen (p := ⟨w.heap.size + 1, 0, none⟩) z1).trans f4
  replace c5 := (h1.cell (p := ⟨w.heap.size + 1, 1, none⟩) z1).trans c5
  replace f5 := (h1.frozen (p := ⟨w.heap.size + 1, 1, none⟩) z1).trans f5
  replace c6 := (h1.cell (p := ⟨w.heap.size + 1, 2, none⟩) z1).trans c6
  replace f6 := (h1.frozen (p := ⟨w.heap.size + 1, 2, none⟩) z1).trans f6
  replace c7 := (h1.cell (p := ⟨w.heap.size + 1, 3, none⟩) z1).trans c7
  replace f7 := (h1.frozen (p := ⟨w.heap.size + 1, 3, none⟩) z1).trans f7
  replace z0 := Nat.lt_of_lt_of_le z0 h1.size
  replace z1 := Nat.lt_of_lt_of_le z1 h1.size
  replace B0 : Below w.heap.size w w1 := B0.trans (h1.mono s0)
  replace s0 := B0.size
  clear h1
  rw [hx]
  go_wp2_with fail
  refine (bookTakes_any _ _ _ _ _ _ _ hx).mono ?_
  rintro e w2 ⟨rfl, h2⟩
  replace fz : ∀ o, w2.frozen? ⟨w.heap.size, o, none⟩ = false := fun o => (h2.frozen (p := ⟨w.heap.size, o, none⟩) z0).trans (fz o)
  replace c0 := (h2.cell (p := ⟨w.heap.size, 0, none⟩) z0).trans c0
  replace f0 := (h2.frozen (p := ⟨w.heap.size, 0, none⟩) z0).trans f0
  replace c1 := (h2.cell (p := ⟨w.heap.size, 1, none⟩) z0).trans c1
  replace f1 := (h2.frozen (p := ⟨w.heap.size, 1, none⟩) z0).trans f1
  replace c2 := (h2.cell (p := ⟨w.heap.size, 2, none⟩) z0).trans c2
  replace f2 := (h2.frozen (p := ⟨w.heap.size, 2, none⟩) z0).trans f2
  replace c3 := (h2.cell (p := ⟨w.heap.size, 3, none⟩) z0).trans c3
  replace f3 := (h2.frozen (p := ⟨w.heap.size, 3, none⟩) z0).trans f3
  replace c4 := (h2.cell (p := ⟨w.heap.size + 1, 0, none⟩) z1).trans c4
  replace f4 := (h2.frozen (p := ⟨w.heap.size + 1, 0, none⟩) z1).trans f4
  replace c5 := (h2.cell (p := ⟨w.heap.size + 1, 1, none⟩) z1).trans c5
  replace f5 := (h2.frozen (p := ⟨w.heap.size + 1, 1, none⟩) z1).trans f5
  replace c6 := (h2.cell (p := ⟨w.heap.size + 1, 2, none⟩) z1).trans c6
  replace f6 := (h2.frozen (p := ⟨w.heap.size + 1, 2, none⟩) z1).trans f6
  replace c7 := (h2.cell (p := ⟨w.heap.size + 1, 3, none⟩) z1).trans c7
  replace f7 := (h2.frozen (p := ⟨w.heap.size + 1, 3, none⟩) z1).trans f7
  replace z0 := Nat.lt_of_lt_of_le z0 h2.size
  replace z1 := Nat.lt_of_lt_of_le z1 h2.size
  replace B0 : Below w.heap.size w w2 := B0.trans (h2.mono s0)
  replace s0 := B0.size
  clear h2
  rw [hy]
  clear hx hy
  have D2 : Hid (BatAt w2 w.heap.size C M G F) := ⟨z0, fz, c0, c1, c2, c3⟩
  clear fz
  go_wp2_with fail
  refine (TK.out _ _ D2.out).mono ?_
  rintro e w3 ⟨rfl, hd3, S3⟩
  have D3 : Hid _ := hd3
  clear hd3 D2
  go_wp2_with fail
  refine (GV.out _ _ D3.out).mono ?_
  rintro e w4 ⟨rfl, hd4, S4⟩
  have SS : Beside w.heap.size w2 w4 := S3.trans S4
  have B4 : Below w.heap.size w w4 := Below.trans B0 (SS.below (Nat.le_refl _) s0)
  clear D3 S3 S4 f0 f1 f2 f3 c0 c1 c2 c3
  replace c4 := (SS.cell (p := ⟨w.heap.size + 1, 0, none⟩) z1 (by simp)).trans c4
  replace f4 := (SS.frozen (p := ⟨w.heap.size + 1, 0, none⟩) z1 (by simp)).trans f4
  replace c5 := (SS.cell (p := ⟨w.heap.size + 1, 1, none⟩) z1 (by simp)).trans c5
  replace f5 := (SS.frozen (p := ⟨w.heap.size + 1, 1, none⟩) z1 (by simp)).trans f5
  replace c6 := (SS.cell (p := ⟨w.heap.size + 1, 2, none⟩) z1 (by simp)).trans c6
  replace f6 := (SS.frozen (p := ⟨w.heap.size + 1, 2, none⟩) z1 (by simp)).trans f6
  replace c7 := (SS.cell (p := ⟨w.heap.size + 1, 3, none⟩) z1 (by simp)).trans c7
  replace f7 := (SS.frozen (p := ⟨w.heap.size + 1, 3, none⟩) z1 (by simp)).trans f7
  replace z1 : w.heap.size + 1 < w4.heap.size := Nat.lt_of_lt_of_le z1 SS.2.2.2.1
  clear SS B0 TK GV
  obtain ⟨hp, hf, c0, c1, c2, c3⟩ := hd4
  go_wp2
  exact bodyPost_ret (v := .tuple #[.agg #[.int .i64 (C + m - n), .int .i64 M, .int .i64 (G + n), .int .i64 (F + m)], .int .i64 (load - n), .bool true]) (by simp [results, Try.results16, go_sem, c4, c5, c6, c7]) rfl ⟨rfl, (by repeat (first | with_reducible exact Below.refl _ _ | with_reducible exact B4 | with_reducible refine Below.setCell ?_ (by first | omega | (simp; done) | (simp; omega)) _ | with_reducible refine bDrewN ?_ _ | with_reducible refine Below.drew ?_ | with_reducible refine Below.alloc ?_ (by first | omega | (simp; done) | (simp; omega)) _))⟩
theorem implBat_any (C M G F load fill : Int) (w : World) : Calls Try.prog 16 #[.agg #[.int .i64 C, .int .i64 M, .int .i64 G, .int .i64 F], .int .i64 load, .int .i64 fill] w fun e w' => e = .returned (.tuple #[.agg #[.int .i64 (nC C M G F load fill), .int .i64 (nM C M G F load fill), .int .i64 (nG C M G F load fill), .int .i64 (nF C M G F load fill)], .int .i64 (nL C M G F load fill), .bool (stpB C M G F load fill)]) ∧ Below w.heap.size w w' := by
  unfold nC nM nG nF nL
  cases hb : stpB C M G F load fill
  · exact implBat_no C M G F load fill w hb
  · have hb2 := hb
    unfold stpB at hb2
    simp only [Bool.and_eq_true] at hb2
    obtain ⟨hx, hy⟩ := hb2
    obtain ⟨⟨c1, c2⟩, -⟩ := bat_yes hx
    obtain ⟨⟨u1, u2⟩, ⟨v1, v2⟩, -⟩ := mov_yes hy
    obtain ⟨m0, m1, m2⟩ := in_is C M fill c2 v1
    obtain ⟨n0, n1, n2⟩ := out_is (C + inV C M fill) load (by omega) u1
    simp only [if_true]
    exact implBat_yes C M G F load fill _ _ rfl rfl m0 m1 m2 n0 n1 n2 w hx hy
end Go.Proofs.Ytdoekgnmbdekgaa
