/-
What is proved: the specification's step of a drum, for all int64s.
-/
import Derived.Test.YtjiojofgpdimaaaStep
import Derived.Deep.DeepCutAuto
namespace Go.Proofs.Ytjiojofgpdimaaa
set_option maxRecDepth 40000
open Go.RowKit
set_option linter.unusedVariables false

set_option maxHeartbeats 1000000 in
theorem specStep_no (x0 x1 x2 x3 x4 x5 x6 fe fi dr : Int) (w : World) (h : stepOk x0 x1 x2 x3 x4 x5 x6 fe fi dr = false) :
    Calls Try.prog 12 #[.agg #[.int .i64 x0, .int .i64 x1, .int .i64 x2, .int .i64 x3, .int .i64 x4, .int .i64 x5, .int .i64 x6], .int .i64 fe, .int .i64 fi, .int .i64 dr] w fun e w' => e = .returned (.tuple #[drum0, .bool false]) ∧ Below w.heap.size w w' := by
  have K : Hid (∀ w, Calls Try.prog 27 #[.agg #[.int .i64 x0, .int .i64 x1, .int .i64 x2, .int .i64 x3, .int .i64 x4, .int .i64 x5, .int .i64 x6]] w fun e w' => e = .returned (.bool (drumB x0 x1 x2 x3 x4 x5 x6)) ∧ Below w.heap.size w w') := fun w => specDrumOk_any x0 x1 x2 x3 x4 x5 x6 w
  have A : Hid (∀ w, Calls Try.prog 32 #[.int .i64 fe, .int .i64 fi, .int .i64 dr] w fun e w' => e = .returned (.bool (actB fe fi dr)) ∧ w' = w) := fun w => l4Act_any fe fi dr w
  cases h1 : drumB x0 x1 x2 x3 x4 x5 x6
  · rw [h1] at K
    clear h h1
    go_enter Try.func12, Try.ntmps12
    go_wp2_with fail
    refine (K.out _).mono ?_
    rintro e w1 ⟨rfl, hb⟩
    obtain ⟨hc, hf⟩ := bcell hb
    have z1 : w.heap.size + 1 < w1.heap.size := by have := hb.size; simp at this; omega
    have B1 : Below w.heap.size w w1 := Below.trans (by repeat (first | with_reducible exact Below.refl _ _ | with_reducible refine Below.setCell ?_ (by first | omega | (simp; done) | (simp; omega)) _ | with_reducible refine bDrewN ?_ _ | with_reducible refine Below.drew ?_ | with_reducible refine Below.alloc ?_ (by first | omega | (simp; done) | (simp; omega)) _)) (hb.mono (by first | omega | (simp; done) | (simp; omega)))
    go_wp2
    refine bodyPost_ret (v := .tuple #[drum0, .bool false]) (by simp [results, Try.results12, go_sem, hc, drum0]) rfl ⟨rfl, ?_⟩
    exact (by repeat (first | with_reducible exact Below.refl _ _ | with_reducible exact B1 | with_reducible refine Below.setCell ?_ (by first | omega | (simp; done) | (simp; omega)) _ | with_reducible refine bDrewN ?_ _ | with_reducible refine Below.drew ?_ | with_reducible refine Below.alloc ?_ (by first | omega | (simp; done) | (simp; omega)) _))
  · rw [h1] at K
    obtain ⟨b0, b1, b2, b3, b4, b5, b6, -⟩ := drum_yes h1
    cases h2 : actB fe fi dr
    · rw [h2] at A
      clear h h1 h2
      go_enter Try.func12, Try.ntmps12
      go_wp2_with fail
      refine (K.out _).mono ?_
      rintro e w1 ⟨rfl, hb⟩
      obtain ⟨hc, hf⟩ := bcell hb
      have z1 : w.heap.size + 1 < w1.heap.size := by have := hb.size; simp at this; omega
      have B1 : Below w.heap.size w w1 := Below.trans (by repeat (first | with_reducible exact Below.refl _ _ | with_reducible refine Below.setCell ?_ (by first | omega | (simp; done) | (simp; omega)) _ | with_reducible refine bDrewN ?_ _ | with_reducible refine Below.drew ?_ | with_reducible refine Below.alloc ?_ (by first | omega | (simp; done) | (simp; omega)) _)) (hb.mono (by first | omega | (simp; done) | (simp; omega)))
      go_wp2_with fail
      refine (A.out _).mono ?_
      rintro e w2 ⟨rfl, rfl⟩
      go_wp2
      refine bodyPost_ret (v := .tuple #[drum0, .bool false]) (by simp [results, Try.results12, go_sem, hc, drum0]) rfl ⟨rfl, ?_⟩
      exact (by repeat (first | with_reducible exact Below.refl _ _ | with_reducible exact B1 | with_reducible refine Below.setCell ?_ (by first | omega | (simp; done) | (simp; omega)) _ | with_reducible refine bDrewN ?_ _ | with_reducible refine Below.drew ?_ | with_reducible refine Below.alloc ?_ (by first | omega | (simp; done) | (simp; omega)) _))
    · rw [h2] at A
      have hf : ¬ (x3 + fe ≤ 1000000000000 ∧ x5 + fi + 4 * fe ≤ 1000000000000) := by
        unfold stepOk at h; rw [h1, h2] at h; unfold fitB at h; simpa using h
      have ha : inS fe ∧ inS fi ∧ inS dr := by unfold actB at h2; exact decide_eq_true_iff.1 h2
      clear h h1 h2
      obtain ⟨⟨a0, a0'⟩, ⟨a1, a1'⟩, -⟩ := ha
      obtain ⟨b3, b3'⟩ := b3
      obtain ⟨b5, b5'⟩ := b5
      clear b0 b1 b2 b4 b6
      by_cases f1 : x3 + fe ≤ 1000000000000
      · have f2 : 1000000000000 < x5 + fi + 4 * fe := by omega
        clear hf
        go_enter Try.func12, Try.ntmps12
        go_wp2_with fail
        refine (K.out _).mono ?_
        rintro e w1 ⟨rfl, hb⟩
        obtain ⟨hc, hf⟩ := bcell hb
        have z1 : w.heap.size + 1 < w1.heap.size := by have := hb.size; simp at this; omega
        have B1 : Below w.heap.size w w1 := Below.trans (by repeat (first | with_reducible exact Below.refl _ _ | with_reducible refine Below.setCell ?_ (by first | omega | (simp; done) | (simp; omega)) _ | with_reducible refine bDrewN ?_ _ | with_reducible refine Below.drew ?_ | with_reducible refine Below.alloc ?_ (by first | omega | (simp; done) | (simp; omega)) _)) (hb.mono (by first | omega | (simp; done) | (simp; omega)))
        go_wp2_with fail
        refine (A.out _).mono ?_
        rintro e w2 ⟨rfl, rfl⟩
        go_wp2
        refine bodyPost_ret (v := .tuple #[drum0, .bool false]) (by simp [results, Try.results12, go_sem, hc, drum0]) rfl ⟨rfl, ?_⟩
        exact (by repeat (first | with_reducible exact Below.refl _ _ | with_reducible exact B1 | with_reducible refine Below.setCell ?_ (by first | omega | (simp; done) | (simp; omega)) _ | with_reducible refine bDrewN ?_ _ | with_reducible refine Below.drew ?_ | with_reducible refine Below.alloc ?_ (by first | omega | (simp; done) | (simp; omega)) _))
      · have f2 : 1000000000000 < x3 + fe := by omega
        clear hf f1
        go_enter Try.func12, Try.ntmps12
        go_wp2_with fail
        refine (K.out _).mono ?_
        rintro e w1 ⟨rfl, hb⟩
        obtain ⟨hc, hf⟩ := bcell hb
        have z1 : w.heap.size + 1 < w1.heap.size := by have := hb.size; simp at this; omega
        have B1 : Below w.heap.size w w1 := Below.trans (by repeat (first | with_reducible exact Below.refl _ _ | with_reducible refine Below.setCell ?_ (by first | omega | (simp; done) | (simp; omega)) _ | with_reducible refine bDrewN ?_ _ | with_reducible refine Below.drew ?_ | with_reducible refine Below.alloc ?_ (by first | omega | (simp; done) | (simp; omega)) _)) (hb.mono (by first | omega | (simp; done) | (simp; omega)))
        go_wp2_with fail
        refine (A.out _).mono ?_
        rintro e w2 ⟨rfl, rfl⟩
        go_wp2
        refine bodyPost_ret (v := .tuple #[drum0, .bool false]) (by simp [results, Try.results12, go_sem, hc, drum0]) rfl ⟨rfl, ?_⟩
        exact (by repeat (first | with_reducible exact Below.refl _ _ | with_reducible exact B1 | with_reducible refine Below.setCell ?_ (by first | omega | (simp; done) | (simp; omega)) _ | with_reducible refine bDrewN ?_ _ | with_reducible refine Below.drew ?_ | with_reducible refine Below.alloc ?_ (by first | omega | (simp; done) | (simp; omega)) _))

set_option maxHeartbeats 1000000 in
theorem specStep_pos (x0 x1 x2 x3 x4 x5 x6 fe fi dr E n m : Int) (w : World) (b0 : 0 ≤ x0) (b0' : x0 ≤ 1000000000000) (b1 : 0 ≤ x1) (b1' : x1 ≤ 1000000000000) (b2 : 0 ≤ x2) (b2' : x2 ≤ 1000000000000) (b3 : 0 ≤ x3) (b3' : x3 ≤ 1000000000000) (b4 : 0 ≤ x4) (b4' : x4 ≤ 1000000000000) (b5 : 0 ≤ x5) (b5' : x5 ≤ 1000000000000) (b6 : 0 ≤ x6) (b6' : x6 ≤ 1000000000000)
    (a0 : 0 ≤ fe) (a0' : fe ≤ 1000000) (a1 : 0 ≤ fi) (a1' : fi ≤ 1000000) (a2 : 0 ≤ dr) (a2' : dr ≤ 1000000) (f1 : x3 + fe ≤ 1000000000000) (f2 : x5 + fi + 4 * fe ≤ 1000000000000)
    (K : Hid (∀ w, Calls Try.prog 27 #[.agg #[.int .i64 x0, .int .i64 x1, .int .i64 x2, .int .i64 x3, .int .i64 x4, .int .i64 x5, .int .i64 x6]] w fun e w' => e = .returned (.bool true) ∧ Below w.heap.size w w'))
    (A : Hid (∀ w, Calls Try.prog 32 #[.int .i64 fe, .int .i64 fi, .int .i64 dr] w fun e w' => e = .returned (.bool true) ∧ w' = w))
    (O : Hid (∀ w, Calls Try.prog 33 #[.agg #[.int .i64 (x0 + fe), .int .i64 x1, .int .i64 (x2 + 4 * fe + fi), .int .i64 (x3 + fe), .int .i64 x4, .int .i64 (x5 + 4 * fe + fi), .int .i64 x6]] w fun e w' => e = .returned (.int .i64 E) ∧ Below w.heap.size w w'))
    (hE : -60000000000000 ≤ E) (hE' : E ≤ 2000000000000) (n0 : -x1 ≤ n) (n1 : n ≤ x0 + fe) (m0 : 0 ≤ m) (m1 : m ≤ 1000000) (m2 : m ≤ x1 + n)
    (s : 0 < E) (hn : (if E / 10 < x0 + fe then E / 10 else x0 + fe) = n) (hm : (if x1 + n < dr then x1 + n else dr) = m) :
    Calls Try.prog 12 #[.agg #[.int .i64 x0, .int .i64 x1, .int .i64 x2, .int .i64 x3, .int .i64 x4, .int .i64 x5, .int .i64 x6], .int .i64 fe, .int .i64 fi, .int .i64 dr] w fun e w' => e = .returned (.tuple #[.agg #[.int .i64 (x0 + fe - n), .int .i64 (x1 + n - m), .int .i64 (x2 + 4 * fe + fi - 30 * m), .int .i64 (x3 + fe), .int .i64 (x4 + m), .int .i64 (x5 + 4 * fe + fi), .int .i64 (x6 + 30 * m)], .bool true]) ∧ Below w.heap.size w w' := by
  go_enter Try.func12, Try.ntmps12
  go_wp2_with fail
  refine (K.out _).mono ?_
  rintro e w1 ⟨rfl, hb⟩
  have B1 : Below w.heap.size w w1 := Below.trans (by repeat (first | with_reducible exact Below.refl _ _ | with_reducible refine Below.setCell ?_ (by first | omega | (simp; done) | (simp; omega)) _ | with_reducible refine bDrewN ?_ _ | with_reducible refine Below.drew ?_ | with_reducible refine Below.alloc ?_ (by first | omega | (simp; done) | (simp; omega)) _)) (hb.mono (by first | omega | (simp; done) | (simp; omega)))
  have z1 : w.heap.size + 1 < w1.heap.size := by have := hb.size; simp at this; omega
  have z1a : w.heap.size < w1.heap.size := by omega
  have q0 : w1.cell? ⟨w.heap.size, 0, none⟩ = some (.int .i64 x0) := by rw [hb.cell (by first | omega | (simp; done) | (simp; omega))]; simp
  have q1 : w1.cell? ⟨w.heap.size, 1, none⟩ = some (.int .i64 x1) := by rw [hb.cell (by first | omega | (simp; done) | (simp; omega))]; simp
  have q2 : w1.cell? ⟨w.heap.size, 2, none⟩ = some (.int .i64 x2) := by rw [hb.cell (by first | omega | (simp; done) | (simp; omega))]; simp
  have q3 : w1.cell? ⟨w.heap.size, 3, none⟩ = some (.int .i64 x3) := by rw [hb.cell (by first | omega | (simp; done) | (simp; omega))]; simp
  have q4 : w1.cell? ⟨w.heap.size, 4, none⟩ = some (.int .i64 x4) := by rw [hb.cell (by first | omega | (simp; done) | (simp; omega))]; simp
  have q5 : w1.cell? ⟨w.heap.size, 5, none⟩ = some (.int .i64 x5) := by rw [hb.cell (by first | omega | (simp; done) | (simp; omega))]; simp
  have q6 : w1.cell? ⟨w.heap.size, 6, none⟩ = some (.int .i64 x6) := by rw [hb.cell (by first | omega | (simp; done) | (simp; omega))]; simp
  have r0 : w1.cell? ⟨w.heap.size + 1, 0, none⟩ = some (.int .i64 0) := by rw [hb.cell (by first | omega | (simp; done) | (simp; omega))]; simp
  have r1 : w1.cell? ⟨w.heap.size + 1, 1, none⟩ = some (.int .i64 0) := by rw [hb.cell (by first | omega | (simp; done) | (simp; omega))]; simp
  have r2 : w1.cell? ⟨w.heap.size + 1, 2, none⟩ = some (.int .i64 0) := by rw [hb.cell (by first | omega | (simp; done) | (simp; omega))]; simp
  have r3 : w1.cell? ⟨w.heap.size + 1, 3, none⟩ = some (.int .i64 0) := by rw [hb.cell (by first | omega | (simp; done) | (simp; omega))]; simp
  have r4 : w1.cell? ⟨w.heap.size + 1, 4, none⟩ = some (.int .i64 0) := by rw [hb.cell (by first | omega | (simp; done) | (simp; omega))]; simp
  have r5 : w1.cell? ⟨w.heap.size + 1, 5, none⟩ = some (.int .i64 0) := by rw [hb.cell (by first | omega | (simp; done) | (simp; omega))]; simp
  have r6 : w1.cell? ⟨w.heap.size + 1, 6, none⟩ = some (.int .i64 0) := by rw [hb.cell (by first | omega | (simp; done) | (simp; omega))]; simp
  have fz : ∀ o, w1.frozen? ⟨w.heap.size, o, none⟩ = false := fun o => by rw [hb.frozen (by first | omega | (simp; done) | (simp; omega))]; simp [go_sem]
  have fy : ∀ o, w1.frozen? ⟨w.heap.size + 1, o, none⟩ = false := fun o => by rw [hb.frozen (by first | omega | (simp; done) | (simp; omega))]; simp [go_sem]
  clear hb
  go_wp2_with fail
  refine (A.out _).mono ?_
  rintro e w2 ⟨rfl, rfl⟩
  go_wp2_with fail
  refine (O.out _).mono ?_
  rintro e w3 ⟨rfl, ho⟩
  have B3 : Below w.heap.size w w3 := Below.trans (by repeat (first | with_reducible exact Below.refl _ _ | with_reducible exact B1 | with_reducible refine Below.setCell ?_ (by first | omega | (simp; done) | (simp; omega)) _ | with_reducible refine bDrewN ?_ _ | with_reducible refine Below.drew ?_ | with_reducible refine Below.alloc ?_ (by first | omega | (simp; done) | (simp; omega)) _)) (ho.mono (by first | omega | (simp; done) | (simp; omega)))
  have z3 : w.heap.size + 1 < w3.heap.size := by have := ho.size; simp at this; omega
  have z3a : w.heap.size < w3.heap.size := by omega
  have p0 : w3.cell? ⟨w.heap.size, 0, none⟩ = some (.int .i64 (x0 + fe)) := by rw [ho.cell (by first | omega | (simp; done) | (simp; omega))]; simp [go_sem, q0]
  have p1 : w3.cell? ⟨w.heap.size, 1, none⟩ = some (.int .i64 (x1)) := by rw [ho.cell (by first | omega | (simp; done) | (simp; omega))]; simp [go_sem, q1]
  have p2 : w3.cell? ⟨w.heap.size, 2, none⟩ = some (.int .i64 (x2 + 4 * fe + fi)) := by rw [ho.cell (by first | omega | (simp; done) | (simp; omega))]; simp [go_sem, q2]
  have p3 : w3.cell? ⟨w.heap.size, 3, none⟩ = some (.int .i64 (x3 + fe)) := by rw [ho.cell (by first | omega | (simp; done) | (simp; omega))]; simp [go_sem, q3]
  have p4 : w3.cell? ⟨w.heap.size, 4, none⟩ = some (.int .i64 (x4)) := by rw [ho.cell (by first | omega | (simp; done) | (simp; omega))]; simp [go_sem, q4]
  have p5 : w3.cell? ⟨w.heap.size, 5, none⟩ = some (.int .i64 (x5 + 4 * fe + fi)) := by rw [ho.cell (by first | omega | (simp; done) | (simp; omega))]; simp [go_sem, q5]
  have p6 : w3.cell? ⟨w.heap.size, 6, none⟩ = some (.int .i64 (x6)) := by rw [ho.cell (by first | omega | (simp; done) | (simp; omega))]; simp [go_sem, q6]
  have t0 : w3.cell? ⟨w.heap.size + 1, 0, none⟩ = some (.int .i64 0) := by rw [ho.cell (by first | omega | (simp; done) | (simp; omega))]; simp [go_sem, r0]
  have t1 : w3.cell? ⟨w.heap.size + 1, 1, none⟩ = some (.int .i64 0) := by rw [ho.cell (by first | omega | (simp; done) | (simp; omega))]; simp [go_sem, r1]
  have t2 : w3.cell? ⟨w.heap.size + 1, 2, none⟩ = some (.int .i64 0) := by rw [ho.cell (by first | omega | (simp; done) | (simp; omega))]; simp [go_sem, r2]
  have t3 : w3.cell? ⟨w.heap.size + 1, 3, none⟩ = some (.int .i64 0) := by rw [ho.cell (by first | omega | (simp; done) | (simp; omega))]; simp [go_sem, r3]
  have t4 : w3.cell? ⟨w.heap.size + 1, 4, none⟩ = some (.int .i64 0) := by rw [ho.cell (by first | omega | (simp; done) | (simp; omega))]; simp [go_sem, r4]
  have t5 : w3.cell? ⟨w.heap.size + 1, 5, none⟩ = some (.int .i64 0) := by rw [ho.cell (by first | omega | (simp; done) | (simp; omega))]; simp [go_sem, r5]
  have t6 : w3.cell? ⟨w.heap.size + 1, 6, none⟩ = some (.int .i64 0) := by rw [ho.cell (by first | omega | (simp; done) | (simp; omega))]; simp [go_sem, r6]
  have gz : ∀ o, w3.frozen? ⟨w.heap.size, o, none⟩ = false := fun o => by rw [ho.frozen (by first | omega | (simp; done) | (simp; omega))]; simp [go_sem, fz]
  have gy : ∀ o, w3.frozen? ⟨w.heap.size + 1, o, none⟩ = false := fun o => by rw [ho.frozen (by first | omega | (simp; done) | (simp; omega))]; simp [go_sem, fy]
  have g0 : 0 ≤ x0 + fe := by omega
  have g0' : x0 + fe ≤ 2000000000000 := by omega
  have g2 : 0 ≤ x2 + 4 * fe + fi := by omega
  have g2' : x2 + 4 * fe + fi ≤ 2000000000000 := by omega
  have BB : Hid _ := B3
  clear q0 q1 q2 q3 q4 q5 q6 r0 r1 r2 r3 r4 r5 r6 fz fy ho B1 z1 z1a K A O B3
  clear b0 b0' b2 b2' b3 b3' b5 b5' a0 a0' a1 a1' a2 a2' f1 f2
  go_upto_region 20 with fail
  obtain ⟨w4, hw4⟩ : ∃ w4, w4 = ((((((w3.setCell ⟨w.heap.size, 0, none⟩ (.int .i64 (x0 + fe - n))).setCell ⟨w.heap.size, 1, none⟩ (.int .i64 (x1 + n))).setCell ⟨w.heap.size, 1, none⟩ (.int .i64 (x1 + n - m))).setCell ⟨w.heap.size, 4, none⟩ (.int .i64 (x4 + m))).setCell ⟨w.heap.size, 2, none⟩ (.int .i64 (x2 + 4 * fe + fi - 30 * m))).setCell ⟨w.heap.size, 6, none⟩ (.int .i64 (x6 + 30 * m))) := ⟨_, rfl⟩
  rw [← hw4]
  have c1a : ((w3.setCell ⟨w.heap.size, 0, none⟩ (.int .i64 (x0 + fe - n))).setCell ⟨w.heap.size, 1, none⟩ (.int .i64 (x1 + n))).cell? ⟨w.heap.size, 1, none⟩ = some (.int .i64 (x1 + n)) := by simp [go_sem, p1]
  have c0 : w4.cell? ⟨w.heap.size, 0, none⟩ = some (.int .i64 (x0 + fe - n)) := by rw [hw4]; simp [go_sem, p0]
  have c1 : w4.cell? ⟨w.heap.size, 1, none⟩ = some (.int .i64 (x1 + n - m)) := by rw [hw4]; simp [go_sem, c1a]
  have c2 : w4.cell? ⟨w.heap.size, 2, none⟩ = some (.int .i64 (x2 + 4 * fe + fi - 30 * m)) := by rw [hw4]; simp [go_sem, p2]
  have c3 : w4.cell? ⟨w.heap.size, 3, none⟩ = some (.int .i64 (x3 + fe)) := by rw [hw4]; simp [go_sem, p3]
  have c4 : w4.cell? ⟨w.heap.size, 4, none⟩ = some (.int .i64 (x4 + m)) := by rw [hw4]; simp [go_sem, p4]
  have c5 : w4.cell? ⟨w.heap.size, 5, none⟩ = some (.int .i64 (x5 + 4 * fe + fi)) := by rw [hw4]; simp [go_sem, p5]
  have c6 : w4.cell? ⟨w.heap.size, 6, none⟩ = some (.int .i64 (x6 + 30 * m)) := by rw [hw4]; simp [go_sem, p6]
  have d0 : w4.cell? ⟨w.heap.size + 1, 0, none⟩ = some (.int .i64 0) := by rw [hw4]; simp [go_sem, t0]
  have d1 : w4.cell? ⟨w.heap.size + 1, 1, none⟩ = some (.int .i64 0) := by rw [hw4]; simp [go_sem, t1]
  have d2 : w4.cell? ⟨w.heap.size + 1, 2, none⟩ = some (.int .i64 0) := by rw [hw4]; simp [go_sem, t2]
  have d3 : w4.cell? ⟨w.heap.size + 1, 3, none⟩ = some (.int .i64 0) := by rw [hw4]; simp [go_sem, t3]
  have d4 : w4.cell? ⟨w.heap.size + 1, 4, none⟩ = some (.int .i64 0) := by rw [hw4]; simp [go_sem, t4]
  have d5 : w4.cell? ⟨w.heap.size + 1, 5, none⟩ = some (.int .i64 0) := by rw [hw4]; simp [go_sem, t5]
  have d6 : w4.cell? ⟨w.heap.size + 1, 6, none⟩ = some (.int .i64 0) := by rw [hw4]; simp [go_sem, t6]
  have kz : ∀ o, w4.frozen? ⟨w.heap.size, o, none⟩ = false := fun o => by rw [hw4]; simp [go_sem, gz]
  have ky : ∀ o, w4.frozen? ⟨w.heap.size + 1, o, none⟩ = false := fun o => by rw [hw4]; simp [go_sem, gy]
  have z4 : w.heap.size + 1 < w4.heap.size := by rw [hw4]; simpa using z3
  have B4 : Below w.heap.size w w4 := by
    have B3 := BB.out
    rw [hw4]
    exact (by repeat (first | with_reducible exact Below.refl _ _ | with_reducible exact B3 | with_reducible refine Below.setCell ?_ (by first | omega | (simp; done) | (simp; omega)) _ | with_reducible refine bDrewN ?_ _ | with_reducible refine Below.drew ?_ | with_reducible refine Below.alloc ?_ (by first | omega | (simp; done) | (simp; omega)) _))
  clear c1a hw4 p0 p1 p2 p3 p4 p5 p6 t0 t1 t2 t3 t4 t5 t6 gz gy z3 z3a BB
  go_wp2
  refine bodyPost_ret (v := .tuple #[.agg #[.int .i64 (x0 + fe - n), .int .i64 (x1 + n - m), .int .i64 (x2 + 4 * fe + fi - 30 * m), .int .i64 (x3 + fe), .int .i64 (x4 + m), .int .i64 (x5 + 4 * fe + fi), .int .i64 (x6 + 30 * m)], .bool true]) (by simp [results, Try.results12, go_sem, d0, d1, d2, d3, d4, d5, d6]) rfl ⟨rfl, ?_⟩
  exact (by repeat (first | with_reducible exact Below.refl _ _ | with_reducible exact B4 | with_reducible refine Below.setCell ?_ (by first | omega | (simp; done) | (simp; omega)) _ | with_reducible refine bDrewN ?_ _ | with_reducible refine Below.drew ?_ | with_reducible refine Below.alloc ?_ (by first | omega | (simp; done) | (simp; omega)) _))
set_option maxHeartbeats 1000000 in
theorem specStep_neg (x0 x1 x2 x3 x4 x5 x6 fe fi dr E n m : Int) (w : World) (b0 : 0 ≤ x0) (b0' : x0 ≤ 1000000000000) (b1 : 0 ≤ x1) (b1' : x1 ≤ 1000000000000) (b2 : 0 ≤ x2) (b2' : x2 ≤ 1000000000000) (b3 : 0 ≤ x3) (b3' : x3 ≤ 1000000000000) (b4 : 0 ≤ x4) (b4' : x4 ≤ 1000000000000) (b5 : 0 ≤ x5) (b5' : x5 ≤ 1000000000000) (b6 : 0 ≤ x6) (b6' : x6 ≤ 1000000000000)
    (a0 : 0 ≤ fe) (a0' : fe ≤ 1000000) (a1 : 0 ≤ fi) (a1' : fi ≤ 1000000) (a2 : 0 ≤ dr) (a2' : dr ≤ 1000000) (f1 : x3 + fe ≤ 1000000000000) (f2 : x5 + fi + 4 * fe ≤ 1000000000000)
    (K : Hid (∀ w, Calls Try.prog 27 #[.agg #[.int .i64 x0, .int .i64 x1, .int .i64 x2, .int .i64 x3, .int .i64 x4, .int .i64 x5, .int .i64 x6]] w fun e w' => e = .returned (.bool true) ∧ Below w.heap.size w w'))
    (A : Hid (∀ w, Calls Try.prog 32 #[.int .i64 fe, .int .i64 fi, .int .i64 dr] w fun e w' => e = .returned (.bool true) ∧ w' = w))
    (O : Hid (∀ w, Calls Try.prog 33 #[.agg #[.int .i64 (x0 + fe), .int .i64 x1, .int .i64 (x2 + 4 * fe + fi), .int .i64 (x3 + fe), .int .i64 x4, .int .i64 (x5 + 4 * fe + fi), .int .i64 x6]] w fun e w' => e = .returned (.int .i64 E) ∧ Below w.heap.size w w'))
    (hE : -60000000000000 ≤ E) (hE' : E ≤ 2000000000000) (n0 : -x1 ≤ n) (n1 : n ≤ x0 + fe) (m0 : 0 ≤ m) (m1 : m ≤ 1000000) (m2 : m ≤ x1 + n)
    (s : E < 0) (hn : (if (9 - E) / 10 < x1 then (9 - E) / 10 else x1) = -n) (hm : (if x1 + n < dr then x1 + n else dr) = m) :
    Calls Try.prog 12 #[.agg #[.int .i64 x0, .int .i64 x1, .int .i64 x2, .int .i64 x3, .int .i64 x4, .int .i64 x5, .int .i64 x6], .int .i64 fe, .int .i64 fi, .int .i64 dr] w fun e w' => e = .returned (.tuple #[.agg #[.int .i64 (x0 + fe - n), .int .i64 (x1 + n - m), .int .i64 (x2 + 4 * fe + fi - 30 * m), .int .i64 (x3 + fe), .int .i64 (x4 + m), .int .i64 (x5 + 4 * fe + fi), .int .i64 (x6 + 30 * m)], .bool true]) ∧ Below w.heap.size w w' := by
  go_enter Try.func12, Try.ntmps12
  go_wp2_with fail
  refine (K.out _).mono ?_
  rintro e w1 ⟨rfl, hb⟩
  have B1 : Below w.heap.size w w1 := Below.trans (by repeat (first | with_reducible exact Below.refl _ _ | with_reducible refine Below.setCell ?_ (by first | omega | (simp; done) | (simp; omega)) _ | with_reducible refine bDrewN ?_ _ | with_reducible refine Below.drew ?_ | with_reducible refine Below.alloc ?_ (by first | omega | (simp; done) | (simp; omega)) _)) (hb.mono (by first | omega | (simp; done) | (simp; omega)))
  have z1 : w.heap.size + 1 < w1.heap.size := by have := hb.size; simp at this; omega
  have z1a : w.heap.size < w1.heap.size := by omega
  have q0 : w1.cell? ⟨w.heap.size, 0, none⟩ = some (.int .i64 x0) := by rw [hb.cell (by first | omega | (simp; done) | (simp; omega))]; simp
  have q1 : w1.cell? ⟨w.heap.size, 1, none⟩ = some (.int .i64 x1) := by rw [hb.cell (by first | omega | (simp; done) | (simp; omega))]; simp
  have q2 : w1.cell? ⟨w.heap.size, 2, none⟩ = some (.int .i64 x2) := by rw [hb.cell (by first | omega | (simp; done) | (simp; omega))]; simp
  have q3 : w1.cell? ⟨w.heap.size, 3, none⟩ = some (.int .i64 x3) := by rw [hb.cell (by first | omega | (simp; done) | (simp; omega))]; simp
  have q4 : w1.cell? ⟨w.heap.size, 4, none⟩ = some (.int .i64 x4) := by rw [hb.cell (by first | omega | (simp; done) | (simp; omega))]; simp
  have q5 : w1.cell? ⟨w.heap.size, 5, none⟩ = some (.int .i64 x5) := by rw [hb.cell (by first | omega | (simp; done) | (simp; omega))]; simp
  have q6 : w1.cell? ⟨w.heap.size, 6, none⟩ = some (.int .i64 x6) := by rw [hb.cell (by first | omega | (simp; done) | (simp; omega))]; simp
  have r0 : w1.cell? ⟨w.heap.size + 1, 0, none⟩ = some (.int .i64 0) := by rw [hb.cell (by first | omega | (simp; done) | (simp; omega))]; simp
  have r1 : w1.cell? ⟨w.heap.size + 1, 1, none⟩ = some (.int .i64 0) := by rw [hb.cell (by first | omega | (simp; done) | (simp; omega))]; simp
  have r2 : w1.cell? ⟨w.heap.size + 1, 2, none⟩ = some (.int .i64 0) := by rw [hb.cell (by first | omega | (simp; done) | (simp; omega))]; simp
  have r3 : w1.cell? ⟨w.heap.size + 1, 3, none⟩ = some (.int .i64 0) := by rw [hb.cell (by first | omega | (simp; done) | (simp; omega))]; simp
  have r4 : w1.cell? ⟨w.heap.size + 1, 4, none⟩ = some (.int .i64 0) := by rw [hb.cell (by first | omega | (simp; done) | (simp; omega))]; simp
  have r5 : w1.cell? ⟨w.heap.size + 1, 5, none⟩ = some (.int .i64 0) := by rw [hb.cell (by first | omega | (simp; done) | (simp; omega))]; simp
  have r6 : w1.cell? ⟨w.heap.size + 1, 6, none⟩ = some (.int .i64 0) := by rw [hb.cell (by first | omega | (simp; done) | (simp; omega))]; simp
  have fz : ∀ o, w1.frozen? ⟨w.heap.size, o, none⟩ = false := fun o => by rw [hb.frozen (by first | omega | (simp; done) | (simp; omega))]; simp [go_sem]
  have fy : ∀ o, w1.frozen? ⟨w.heap.size + 1, o, none⟩ = false := fun o => by rw [hb.frozen (by first | omega | (simp; done) | (simp; omega))]; simp [go_sem]
  clear hb
  go_wp2_with fail
  refine (A.out _).mono ?_
  rintro e w2 ⟨rfl, rfl⟩
  go_wp2_with fail
  refine (O.out _).mono ?_
  rintro e w3 ⟨rfl, ho⟩
  have B3 : Below w.heap.size w w3 := Below.trans (by repeat (first | with_reducible exact Below.refl _ _ | with_reducible exact B1 | with_reducible refine Below.setCell ?_ (by first | omega | (simp; done) | (simp; omega)) _ | with_reducible refine bDrewN ?_ _ | with_reducible refine Below.drew ?_ | with_reducible refine Below.alloc ?_ (by first | omega | (simp; done) | (simp; omega)) _)) (ho.mono (by first | omega | (simp; done) | (simp; omega)))
  have z3 : w.heap.size + 1 < w3.heap.size := by have := ho.size; simp at this; omega
  have z3a : w.heap.size < w3.heap.size := by omega
  have p0 : w3.cell? ⟨w.heap.size, 0, none⟩ = some (.int .i64 (x0 + fe)) := by rw [ho.cell (by first | omega | (simp; done) | (simp; omega))]; simp [go_sem, q0]
  have p1 : w3.cell? ⟨w.heap.size, 1, none⟩ = some (.int .i64 (x1)) := by rw [ho.cell (by first | omega | (simp; done) | (simp; omega))]; simp [go_sem, q1]
  have p2 : w3.cell? ⟨w.heap.size, 2, none⟩ = some (.int .i64 (x2 + 4 * fe + fi)) := by rw [ho.cell (by first | omega | (simp; done) | (simp; omega))]; simp [go_sem, q2]
  have p3 : w3.cell? ⟨w.heap.size, 3, none⟩ = some (.int .i64 (x3 + fe)) := by rw [ho.cell (by first | omega | (simp; done) | (simp; omega))]; simp [go_sem, q3]
  have p4 : w3.cell? ⟨w.heap.size, 4, none⟩ = some (.int .i64 (x4)) := by rw [ho.cell (by first | omega | (simp; done) | (simp; omega))]; simp [go_sem, q4]
  have p5 : w3.cell? ⟨w.heap.size, 5, none⟩ = some (.int .i64 (x5 + 4 * fe + fi)) := by rw [ho.cell (by first | omega | (simp; done) | (simp; omega))]; simp [go_sem, q5]
  have p6 : w3.cell? ⟨w.heap.size, 6, none⟩ = some (.int .i64 (x6)) := by rw [ho.cell (by first | omega | (simp; done) | (simp; omega))]; simp [go_sem, q6]
  have t0 : w3.cell? ⟨w.heap.size + 1, 0, none⟩ = some (.int .i64 0) := by rw [ho.cell (by first | omega | (simp; done) | (simp; omega))]; simp [go_sem, r0]
  have t1 : w3.cell? ⟨w.heap.size + 1, 1, none⟩ = some (.int .i64 0) := by rw [ho.cell (by first | omega | (simp; done) | (simp; omega))]; simp [go_sem, r1]
  have t2 : w3.cell? ⟨w.heap.size + 1, 2, none⟩ = some (.int .i64 0) := by rw [ho.cell (by first | omega | (simp; done) | (simp; omega))]; simp [go_sem, r2]
  have t3 : w3.cell? ⟨w.heap.size + 1, 3, none⟩ = some (.int .i64 0) := by rw [ho.cell (by first | omega | (simp; done) | (simp; omega))]; simp [go_sem, r3]
  have t4 : w3.cell? ⟨w.heap.size + 1, 4, none⟩ = some (.int .i64 0) := by rw [ho.cell (by first | omega | (simp; done) | (simp; omega))]; simp [go_sem, r4]
  have t5 : w3.cell? ⟨w.heap.size + 1, 5, none⟩ = some (.int .i64 0) := by rw [ho.cell (by first | omega | (simp; done) | (simp; omega))]; simp [go_sem, r5]
  have t6 : w3.cell? ⟨w.heap.size + 1, 6, none⟩ = some (.int .i64 0) := by rw [ho.cell (by first | omega | (simp; done) | (simp; omega))]; simp [go_sem, r6]
  have gz : ∀ o, w3.frozen? ⟨w.heap.size, o, none⟩ = false := fun o => by rw [ho.frozen (by first | omega | (simp; done) | (simp; omega))]; simp [go_sem, fz]
  have gy : ∀ o, w3.frozen? ⟨w.heap.size + 1, o, none⟩ = false := fun o => by rw [ho.frozen (by first | omega | (simp; done) | (simp; omega))]; simp [go_sem, fy]
  have g0 : 0 ≤ x0 + fe := by omega
  have g0' : x0 + fe ≤ 2000000000000 := by omega
  have g2 : 0 ≤ x2 + 4 * fe + fi := by omega
  have g2' : x2 + 4 * fe + fi ≤ 2000000000000 := by omega
  have BB : Hid _ := B3
  clear q0 q1 q2 q3 q4 q5 q6 r0 r1 r2 r3 r4 r5 r6 fz fy ho B1 z1 z1a K A O B3
  clear b0 b0' b2 b2' b3 b3' b5 b5' a0 a0' a1 a1' a2 a2' f1 f2
  go_upto_region 20 with fail
  obtain ⟨w4, hw4⟩ : ∃ w4, w4 = ((((((w3.setCell ⟨w.heap.size, 0, none⟩ (.int .i64 (x0 + fe - n))).setCell ⟨w.heap.size, 1, none⟩ (.int .i64 (x1 + n))).setCell ⟨w.heap.size, 1, none⟩ (.int .i64 (x1 + n - m))).setCell ⟨w.heap.size, 4, none⟩ (.int .i64 (x4 + m))).setCell ⟨w.heap.size, 2, none⟩ (.int .i64 (x2 + 4 * fe + fi - 30 * m))).setCell ⟨w.heap.size, 6, none⟩ (.int .i64 (x6 + 30 * m))) := ⟨_, rfl⟩
  rw [← hw4]
  have c1a : ((w3.setCell ⟨w.heap.size, 0, none⟩ (.int .i64 (x0 + fe - n))).setCell ⟨w.heap.size, 1, none⟩ (.int .i64 (x1 + n))).cell? ⟨w.heap.size, 1, none⟩ = some (.int .i64 (x1 + n)) := by simp [go_sem, p1]
  have c0 : w4.cell? ⟨w.heap.size, 0, none⟩ = some (.int .i64 (x0 + fe - n)) := by rw [hw4]; simp [go_sem, p0]
  have c1 : w4.cell? ⟨w.heap.size, 1, none⟩ = some (.int .i64 (x1 + n - m)) := by rw [hw4]; simp [go_sem, c1a]
  have c2 : w4.cell? ⟨w.heap.size, 2, none⟩ = some (.int .i64 (x2 + 4 * fe + fi - 30 * m)) := by rw [hw4]; simp [go_sem, p2]
  have c3 : w4.cell? ⟨w.heap.size, 3, none⟩ = some (.int .i64 (x3 + fe)) := by rw [hw4]; simp [go_sem, p3]
  have c4 : w4.cell? ⟨w.heap.size, 4, none⟩ = some (.int .i64 (x4 + m)) := by rw [hw4]; simp [go_sem, p4]
  have c5 : w4.cell? ⟨w.heap.size, 5, none⟩ = some (.int .i64 (x5 + 4 * fe + fi)) := by rw [hw4]; simp [go_sem, p5]
  have c6 : w4.cell? ⟨w.heap.size, 6, none⟩ = some (.int .i64 (x6 + 30 * m)) := by rw [hw4]; simp [go_sem, p6]
  have d0 : w4.cell? ⟨w.heap.size + 1, 0, none⟩ = some (.int .i64 0) := by rw [hw4]; simp [go_sem, t0]
  have d1 : w4.cell? ⟨w.heap.size + 1, 1, none⟩ = some (.int .i64 0) := by rw [hw4]; simp [go_sem, t1]
  have d2 : w4.cell? ⟨w.heap.size + 1, 2, none⟩ = some (.int .i64 0) := by rw [hw4]; simp [go_sem, t2]
  have d3 : w4.cell? ⟨w.heap.size + 1, 3, none⟩ = some (.int .i64 0) := by rw [hw4]; simp [go_sem, t3]
  have d4 : w4.cell? ⟨w.heap.size + 1, 4, none⟩ = some (.int .i64 0) := by rw [hw4]; simp [go_sem, t4]
  have d5 : w4.cell? ⟨w.heap.size + 1, 5, none⟩ = some (.int .i64 0) := by rw [hw4]; simp [go_sem, t5]
  have d6 : w4.cell? ⟨w.heap.size + 1, 6, none⟩ = some (.int .i64 0) := by rw [hw4]; simp [go_sem, t6]
  have kz : ∀ o, w4.frozen? ⟨w.heap.size, o, none⟩ = false := fun o => by rw [hw4]; simp [go_sem, gz]
  have ky : ∀ o, w4.frozen? ⟨w.heap.size + 1, o, none⟩ = false := fun o => by rw [hw4]; simp [go_sem, gy]
  have z4 : w.heap.size + 1 < w4.heap.size := by rw [hw4]; simpa using z3
  have B4 : Below w.heap.size w w4 := by
    have B3 := BB.out
    rw [hw4]
    exact (by repeat (first | with_reducible exact Below.refl _ _ | with_reducible exact B3 | with_reducible refine Below.setCell ?_ (by first | omega | (simp; done) | (simp; omega)) _ | with_reducible refine bDrewN ?_ _ | with_reducible refine Below.drew ?_ | with_reducible refine Below.alloc ?_ (by first | omega | (simp; done) | (simp; omega)) _))
  clear c1a hw4 p0 p1 p2 p3 p4 p5 p6 t0 t1 t2 t3 t4 t5 t6 gz gy z3 z3a BB
  go_wp2
  refine bodyPost_ret (v := .tuple #[.agg #[.int .i64 (x0 + fe - n), .int .i64 (x1 + n - m), .int .i64 (x2 + 4 * fe + fi - 30 * m), .int .i64 (x3 + fe), .int .i64 (x4 + m), .int .i64 (x5 + 4 * fe + fi), .int .i64 (x6 + 30 * m)], .bool true]) (by simp [results, Try.results12, go_sem, d0, d1, d2, d3, d4, d5, d6]) rfl ⟨rfl, ?_⟩
  exact (by repeat (first | with_reducible exact Below.refl _ _ | with_reducible exact B4 | with_reducible refine Below.setCell ?_ (by first | omega | (simp; done) | (simp; omega)) _ | with_reducible refine bDrewN ?_ _ | with_reducible refine Below.drew ?_ | with_reducible refine Below.alloc ?_ (by first | omega | (simp; done) | (simp; omega)) _))
set_option maxHeartbeats 1000000 in
theorem specStep_zero (x0 x1 x2 x3 x4 x5 x6 fe fi dr E m : Int) (w : World) (b0 : 0 ≤ x0) (b0' : x0 ≤ 1000000000000) (b1 : 0 ≤ x1) (b1' : x1 ≤ 1000000000000) (b2 : 0 ≤ x2) (b2' : x2 ≤ 1000000000000) (b3 : 0 ≤ x3) (b3' : x3 ≤ 1000000000000) (b4 : 0 ≤ x4) (b4' : x4 ≤ 1000000000000) (b5 : 0 ≤ x5) (b5' : x5 ≤ 1000000000000) (b6 : 0 ≤ x6) (b6' : x6 ≤ 1000000000000)
    (a0 : 0 ≤ fe) (a0' : fe ≤ 1000000) (a1 : 0 ≤ fi) (a1' : fi ≤ 1000000) (a2 : 0 ≤ dr) (a2' : dr ≤ 1000000) (f1 : x3 + fe ≤ 1000000000000) (f2 : x5 + fi + 4 * fe ≤ 1000000000000)
    (K : Hid (∀ w, Calls Try.prog 27 #[.agg #[.int .i64 x0, .int .i64 x1, .int .i64 x2, .int .i64 x3, .int .i64 x4, .int .i64 x5, .int .i64 x6]] w fun e w' => e = .returned (.bool true) ∧ Below w.heap.size w w'))
    (A : Hid (∀ w, Calls Try.prog 32 #[.int .i64 fe, .int .i64 fi, .int .i64 dr] w fun e w' => e = .returned (.bool true) ∧ w' = w))
    (O : Hid (∀ w, Calls Try.prog 33 #[.agg #[.int .i64 (x0 + fe), .int .i64 x1, .int .i64 (x2 + 4 * fe + fi), .int .i64 (x3 + fe), .int .i64 x4, .int .i64 (x5 + 4 * fe + fi), .int .i64 x6]] w fun e w' => e = .returned (.int .i64 E) ∧ Below w.heap.size w w'))
    (hE : -60000000000000 ≤ E) (hE' : E ≤ 2000000000000) (m0 : 0 ≤ m) (m1 : m ≤ 1000000) (m2 : m ≤ x1)
    (s : E = 0) (hm : (if x1 < dr then x1 else dr) = m) :
    Calls Try.prog 12 #[.agg #[.int .i64 x0, .int .i64 x1, .int .i64 x2, .int .i64 x3, .int .i64 x4, .int .i64 x5, .int .i64 x6], .int .i64 fe, .int .i64 fi, .int .i64 dr] w fun e w' => e = .returned (.tuple #[.agg #[.int .i64 (x0 + fe), .int .i64 (x1 - m), .int .i64 (x2 + 4 * fe + fi - 30 * m), .int .i64 (x3 + fe), .int .i64 (x4 + m), .int .i64 (x5 + 4 * fe + fi), .int .i64 (x6 + 30 * m)], .bool true]) ∧ Below w.heap.size w w' := by
  subst s
  go_enter Try.func12, Try.ntmps12
  go_wp2_with fail
  refine (K.out _).mono ?_
  rintro e w1 ⟨rfl, hb⟩
  have B1 : Below w.heap.size w w1 := Below.trans (by repeat (first | with_reducible exact Below.refl _ _ | with_reducible refine Below.setCell ?_ (by first | omega | (simp; done) | (simp; omega)) _ | with_reducible refine bDrewN ?_ _ | with_reducible refine Below.drew ?_ | with_reducible refine Below.alloc ?_ (by first | omega | (simp; done) | (simp; omega)) _)) (hb.mono (by first | omega | (simp; done) | (simp; omega)))
  have z1 : w.heap.size + 1 < w1.heap.size := by have := hb.size; simp at this; omega
  have z1a : w.heap.size < w1.heap.size := by omega
  have q0 : w1.cell? ⟨w.heap.size, 0, none⟩ = some (.int .i64 x0) := by rw [hb.cell (by first | omega | (simp; done) | (simp; omega))]; simp
  have q1 : w1.cell? ⟨w.heap.size, 1, none⟩ = some (.int .i64 x1) := by rw [hb.cell (by first | omega | (simp; done) | (simp; omega))]; simp
  have q2 : w1.cell? ⟨w.heap.size, 2, none⟩ = some (.int .i64 x2) := by rw [hb.cell (by first | omega | (simp; done) | (simp; omega))]; simp
  have q3 : w1.cell? ⟨w.heap.size, 3, none⟩ = some (.int .i64 x3) := by rw [hb.cell (by first | omega | (simp; done) | (simp; omega))]; simp
  have q4 : w1.cell? ⟨w.heap.size, 4, none⟩ = some (.int .i64 x4) := by rw [hb.cell (by first | omega | (simp; done) | (simp; omega))]; simp
  have q5 : w1.cell? ⟨w.heap.size, 5, none⟩ = some (.int .i64 x5) := by rw [hb.cell (by first | omega | (simp; done) | (simp; omega))]; simp
  have q6 : w1.cell? ⟨w.heap.size, 6, none⟩ = some (.int .i64 x6) := by rw [hb.cell (by first | omega | (simp; done) | (simp; omega))]; simp
  have r0 : w1.cell? ⟨w.heap.size + 1, 0, none⟩ = some (.int .i64 0) := by rw [hb.cell (by first | omega | (simp; done) | (simp; omega))]; simp
  have r1 : w1.cell? ⟨w.heap.size + 1, 1, none⟩ = some (.int .i64 0) := by rw [hb.cell (by first | omega | (simp; done) | (simp; omega))]; simp
  have r2 : w1.cell? ⟨w.heap.size + 1, 2, none⟩ = some (.int .i64 0) := by rw [hb.cell (by first | omega | (simp; done) | (simp; omega))]; simp
  have r3 : w1.cell? ⟨w.heap.size + 1, 3, none⟩ = some (.int .i64 0) := by rw [hb.cell (by first | omega | (simp; done) | (simp; omega))]; simp
  have r4 : w1.cell? ⟨w.heap.size + 1, 4, none⟩ = some (.int .i64 0) := by rw [hb.cell (by first | omega | (simp; done) | (simp; omega))]; simp
  have r5 : w1.cell? ⟨w.heap.size + 1, 5, none⟩ = some (.int .i64 0) := by rw [hb.cell (by first | omega | (simp; done) | (simp; omega))]; simp
  have r6 : w1.cell? ⟨w.heap.size + 1, 6, none⟩ = some (.int .i64 0) := by rw [hb.cell (by first | omega | (simp; done) | (simp; omega))]; simp
  have fz : ∀ o, w1.frozen? ⟨w.heap.size, o, none⟩ = false := fun o => by rw [hb.frozen (by first | omega | (simp; done) | (simp; omega))]; simp [go_sem]
  have fy : ∀ o, w1.frozen? ⟨w.heap.size + 1, o, none⟩ = false := fun o => by rw [hb.frozen (by first | omega | (simp; done) | (simp; omega))]; simp [go_sem]
  clear hb
  go_wp2_with fail
  refine (A.out _).mono ?_
  rintro e w2 ⟨rfl, rfl⟩
  go_wp2_with fail
  refine (O.out _).mono ?_
  rintro e w3 ⟨rfl, ho⟩
  have B3 : Below w.heap.size w w3 := Below.trans (by repeat (first | with_reducible exact Below.refl _ _ | with_reducible exact B1 | with_reducible refine Below.setCell ?_ (by first | omega | (simp; done) | (simp; omega)) _ | with_reducible refine bDrewN ?_ _ | with_reducible refine Below.drew ?_ | with_reducible refine Below.alloc ?_ (by first | omega | (simp; done) | (simp; omega)) _)) (ho.mono (by first | omega | (simp; done) | (simp; omega)))
  have z3 : w.heap.size + 1 < w3.heap.size := by have := ho.size; simp at this; omega
  have z3a : w.heap.size < w3.heap.size := by omega
  have p0 : w3.cell? ⟨w.heap.size, 0, none⟩ = some (.int .i64 (x0 + fe)) := by rw [ho.cell (by first | omega | (simp; done) | (simp; omega))]; simp [go_sem, q0]
  have p1 : w3.cell? ⟨w.heap.size, 1, none⟩ = some (.int .i64 (x1)) := by rw [ho.cell (by first | omega | (simp; done) | (simp; omega))]; simp [go_sem, q1]
  have p2 : w3.cell? ⟨w.heap.size, 2, none⟩ = some (.int .i64 (x2 + 4 * fe + fi)) := by rw [ho.cell (by first | omega | (simp; done) | (simp; omega))]; simp [go_sem, q2]
  have p3 : w3.cell? ⟨w.heap.size, 3, none⟩ = some (.int .i64 (x3 + fe)) := by rw [ho.cell (by first | omega | (simp; done) | (simp; omega))]; simp [go_sem, q3]
  have p4 : w3.cell? ⟨w.heap.size, 4, none⟩ = some (.int .i64 (x4)) := by rw [ho.cell (by first | omega | (simp; done) | (simp; omega))]; simp [go_sem, q4]
  have p5 : w3.cell? ⟨w.heap.size, 5, none⟩ = some (.int .i64 (x5 + 4 * fe + fi)) := by rw [ho.cell (by first | omega | (simp; done) | (simp; omega))]; simp [go_sem, q5]
  have p6 : w3.cell? ⟨w.heap.size, 6, none⟩ = some (.int .i64 (x6)) := by rw [ho.cell (by first | omega | (simp; done) | (simp; omega))]; simp [go_sem, q6]
  have t0 : w3.cell? ⟨w.heap.size + 1, 0, none⟩ = some (.int .i64 0) := by rw [ho.cell (by first | omega | (simp; done) | (simp; omega))]; simp [go_sem, r0]
  have t1 : w3.cell? ⟨w.heap.size + 1, 1, none⟩ = some (.int .i64 0) := by rw [ho.cell (by first | omega | (simp; done) | (simp; omega))]; simp [go_sem, r1]
  have t2 : w3.cell? ⟨w.heap.size + 1, 2, none⟩ = some (.int .i64 0) := by rw [ho.cell (by first | omega | (simp; done) | (simp; omega))]; simp [go_sem, r2]
  have t3 : w3.cell? ⟨w.heap.size + 1, 3, none⟩ = some (.int .i64 0) := by rw [ho.cell (by first | omega | (simp; done) | (simp; omega))]; simp [go_sem, r3]
  have t4 : w3.cell? ⟨w.heap.size + 1, 4, none⟩ = some (.int .i64 0) := by rw [ho.cell (by first | omega | (simp; done) | (simp; omega))]; simp [go_sem, r4]
  have t5 : w3.cell? ⟨w.heap.size + 1, 5, none⟩ = some (.int .i64 0) := by rw [ho.cell (by first | omega | (simp; done) | (simp; omega))]; simp [go_sem, r5]
  have t6 : w3.cell? ⟨w.heap.size + 1, 6, none⟩ = some (.int .i64 0) := by rw [ho.cell (by first | omega | (simp; done) | (simp; omega))]; simp [go_sem, r6]
  have gz : ∀ o, w3.frozen? ⟨w.heap.size, o, none⟩ = false := fun o => by rw [ho.frozen (by first | omega | (simp; done) | (simp; omega))]; simp [go_sem, fz]
  have gy : ∀ o, w3.frozen? ⟨w.heap.size + 1, o, none⟩ = false := fun o => by rw [ho.frozen (by first | omega | (simp; done) | (simp; omega))]; simp [go_sem, fy]
  have g0 : 0 ≤ x0 + fe := by omega
  have g0' : x0 + fe ≤ 2000000000000 := by omega
  have g2 : 0 ≤ x2 + 4 * fe + fi := by omega
  have g2' : x2 + 4 * fe + fi ≤ 2000000000000 := by omega
  have BB : Hid _ := B3
  clear q0 q1 q2 q3 q4 q5 q6 r0 r1 r2 r3 r4 r5 r6 fz fy ho B1 z1 z1a K A O B3
  clear b0 b0' b2 b2' b3 b3' b5 b5' a0 a0' a1 a1' a2 a2' f1 f2
  go_upto_region 20 with fail
  obtain ⟨w4, hw4⟩ : ∃ w4, w4 = ((((((w3.setCell ⟨w.heap.size, 0, none⟩ (.int .i64 (x0 + fe))).setCell ⟨w.heap.size, 1, none⟩ (.int .i64 (x1))).setCell ⟨w.heap.size, 1, none⟩ (.int .i64 (x1 - m))).setCell ⟨w.heap.size, 4, none⟩ (.int .i64 (x4 + m))).setCell ⟨w.heap.size, 2, none⟩ (.int .i64 (x2 + 4 * fe + fi - 30 * m))).setCell ⟨w.heap.size, 6, none⟩ (.int .i64 (x6 + 30 * m))) := ⟨_, rfl⟩
  rw [← hw4]
  have c1a : ((w3.setCell ⟨w.heap.size, 0, none⟩ (.int .i64 (x0 + fe))).setCell ⟨w.heap.size, 1, none⟩ (.int .i64 (x1))).cell? ⟨w.heap.size, 1, none⟩ = some (.int .i64 (x1)) := by simp [go_sem, p1]
  have c0 : w4.cell? ⟨w.heap.size, 0, none⟩ = some (.int .i64 (x0 + fe)) := by rw [hw4]; simp [go_sem, p0]
  have c1 : w4.cell? ⟨w.heap.size, 1, none⟩ = some (.int .i64 (x1 - m)) := by rw [hw4]; simp [go_sem, c1a]
  have c2 : w4.cell? ⟨w.heap.size, 2, none⟩ = some (.int .i64 (x2 + 4 * fe + fi - 30 * m)) := by rw [hw4]; simp [go_sem, p2]
  have c3 : w4.cell? ⟨w.heap.size, 3, none⟩ = some (.int .i64 (x3 + fe)) := by rw [hw4]; simp [go_sem, p3]
  have c4 : w4.cell? ⟨w.heap.size, 4, none⟩ = some (.int .i64 (x4 + m)) := by rw [hw4]; simp [go_sem, p4]
  have c5 : w4.cell? ⟨w.heap.size, 5, none⟩ = some (.int .i64 (x5 + 4 * fe + fi)) := by rw [hw4]; simp [go_sem, p5]
  have c6 : w4.cell? ⟨w.heap.size, 6, none⟩ = some (.int .i64 (x6 + 30 * m)) := by rw [hw4]; simp [go_sem, p6]
  have d0 : w4.cell? ⟨w.heap.size + 1, 0, none⟩ = some (.int .i64 0) := by rw [hw4]; simp [go_sem, t0]
  have d1 : w4.cell? ⟨w.heap.size + 1, 1, none⟩ = some (.int .i64 0) := by rw [hw4]; simp [go_sem, t1]
  have d2 : w4.cell? ⟨w.heap.size + 1, 2, none⟩ = some (.int .i64 0) := by rw [hw4]; simp [go_sem, t2]
  have d3 : w4.cell? ⟨w.heap.size + 1, 3, none⟩ = some (.int .i64 0) := by rw [hw4]; simp [go_sem, t3]
  have d4 : w4.cell? ⟨w.heap.size + 1, 4, none⟩ = some (.int .i64 0) := by rw [hw4]; simp [go_sem, t4]
  have d5 : w4.cell? ⟨w.heap.size + 1, 5, none⟩ = some (.int .i64 0) := by rw [hw4]; simp [go_sem, t5]
  have d6 : w4.cell? ⟨w.heap.size + 1, 6, none⟩ = some (.int .i64 0) := by rw [hw4]; simp [go_sem, t6]
  have kz : ∀ o, w4.frozen? ⟨w.heap.size, o, none⟩ = false := fun o => by rw [hw4]; simp [go_sem, gz]
  have ky : ∀ o, w4.frozen? ⟨w.heap.size + 1, o, none⟩ = false := fun o => by rw [hw4]; simp [go_sem, gy]
  have z4 : w.heap.size + 1 < w4.heap.size := by rw [hw4]; simpa using z3
  have B4 : Below w.heap.size w w4 := by
    have B3 := BB.out
    rw [hw4]
    exact (by repeat (first | with_reducible exact Below.refl _ _ | with_reducible exact B3 | with_reducible refine Below.setCell ?_ (by first | omega | (simp; done) | (simp; omega)) _ | with_reducible refine bDrewN ?_ _ | with_reducible refine Below.drew ?_ | with_reducible refine Below.alloc ?_ (by first | omega | (simp; done) | (simp; omega)) _))
  clear c1a hw4 p0 p1 p2 p3 p4 p5 p6 t0 t1 t2 t3 t4 t5 t6 gz gy z3 z3a BB
  go_wp2
  refine bodyPost_ret (v := .tuple #[.agg #[.int .i64 (x0 + fe), .int .i64 (x1 - m), .int .i64 (x2 + 4 * fe + fi - 30 * m), .int .i64 (x3 + fe), .int .i64 (x4 + m), .int .i64 (x5 + 4 * fe + fi), .int .i64 (x6 + 30 * m)], .bool true]) (by simp [results, Try.results12, go_sem, d0, d1, d2, d3, d4, d5, d6]) rfl ⟨rfl, ?_⟩
  exact (by repeat (first | with_reducible exact Below.refl _ _ | with_reducible exact B4 | with_reducible refine Below.setCell ?_ (by first | omega | (simp; done) | (simp; omega)) _ | with_reducible refine bDrewN ?_ _ | with_reducible refine Below.drew ?_ | with_reducible refine Below.alloc ?_ (by first | omega | (simp; done) | (simp; omega)) _))

/-- A step that is taken, in its numbers. -/
theorem step_facts {x0 x1 x2 x3 x4 x5 x6 fe fi dr : Int} (h : stepOk x0 x1 x2 x3 x4 x5 x6 fe fi dr = true) : inD x0 ∧ inD x1 ∧ inD x2 ∧ inD x3 ∧ inD x4 ∧ inD x5 ∧ inD x6 ∧ inS fe ∧ inS fi ∧ inS dr ∧ x3 + fe ≤ 1000000000000 ∧ x5 + fi + 4 * fe ≤ 1000000000000 ∧ drumB x0 x1 x2 x3 x4 x5 x6 = true ∧ actB fe fi dr = true := by
  unfold stepOk at h
  rw [Bool.and_eq_true, Bool.and_eq_true] at h
  obtain ⟨⟨h1, h2⟩, h3⟩ := h
  obtain ⟨b0, b1, b2, b3, b4, b5, b6, -⟩ := drum_yes h1
  have h2' := h2
  unfold actB at h2'
  obtain ⟨a0, a1, a2⟩ := decide_eq_true_iff.1 h2'
  unfold fitB at h3
  obtain ⟨f1, f2⟩ := decide_eq_true_iff.1 h3
  exact ⟨b0, b1, b2, b3, b4, b5, b6, a0, a1, a2, f1, f2, h1, h2⟩
theorem boil_bounds {e a b : Int} (ha : 0 ≤ a) (hb : 0 ≤ b) : -b ≤ boilN e a b ∧ boilN e a b ≤ a := by
  rcases Int.lt_trichotomy e 0 with s | s | s
  · rw [boil_neg s]; omega
  · rw [boil_zero s]; omega
  · rw [boil_pos s]; omega
theorem min_if (a b : Int) : (if b < a then b else a) = min a b := by split <;> omega
theorem min_if' (a b : Int) : (if b < a then b else a) = min b a := by split <;> omega
theorem ret_drum {a b : Value} {c : Bool} (h : a = b) : Ending.returned (.tuple #[a, .bool c]) = .returned (.tuple #[b, .bool c]) := by rw [h]
theorem stepD_eq (x0 x1 x2 x3 x4 x5 x6 fe fi dr E n m : Int) (hE : x2 + 4 * fe + fi - 20 * (x0 + fe) - 30 * x1 = E) (hn : boilN E (x0 + fe) x1 = n) (hm : min dr (x1 + n) = m) : stepD x0 x1 x2 x3 x4 x5 x6 fe fi dr = .agg #[.int .i64 (x0 + fe - n), .int .i64 (x1 + n - m), .int .i64 (x2 + 4 * fe + fi - 30 * m), .int .i64 (x3 + fe), .int .i64 (x4 + m), .int .i64 (x5 + 4 * fe + fi), .int .i64 (x6 + 30 * m)] := by
  unfold stepD
  simp only [hE, hn, hm]

theorem specDrumStep_any (x0 x1 x2 x3 x4 x5 x6 fe fi dr : Int) (w : World) :
    Calls Try.prog 12 #[.agg #[.int .i64 x0, .int .i64 x1, .int .i64 x2, .int .i64 x3, .int .i64 x4, .int .i64 x5, .int .i64 x6], .int .i64 fe, .int .i64 fi, .int .i64 dr] w fun e w' => e = .returned (.tuple #[stepV x0 x1 x2 x3 x4 x5 x6 fe fi dr, .bool (stepOk x0 x1 x2 x3 x4 x5 x6 fe fi dr)]) ∧ Below w.heap.size w w' := by
  cases h : stepOk x0 x1 x2 x3 x4 x5 x6 fe fi dr
  · have e1 : stepV x0 x1 x2 x3 x4 x5 x6 fe fi dr = drum0 := by unfold stepV; rw [h]; rfl
    rw [e1]
    exact specStep_no x0 x1 x2 x3 x4 x5 x6 fe fi dr w h
  · have e1 : stepV x0 x1 x2 x3 x4 x5 x6 fe fi dr = stepD x0 x1 x2 x3 x4 x5 x6 fe fi dr := by unfold stepV; rw [h]; rfl
    rw [e1]
    obtain ⟨b0, b1, b2, b3, b4, b5, b6, a0, a1, a2, f1, f2, d1, d2⟩ := step_facts h
    have K : Hid (∀ w, Calls Try.prog 27 #[.agg #[.int .i64 x0, .int .i64 x1, .int .i64 x2, .int .i64 x3, .int .i64 x4, .int .i64 x5, .int .i64 x6]] w fun e w' => e = .returned (.bool true) ∧ Below w.heap.size w w') := fun w => d1 ▸ specDrumOk_any x0 x1 x2 x3 x4 x5 x6 w
    have A : Hid (∀ w, Calls Try.prog 32 #[.int .i64 fe, .int .i64 fi, .int .i64 dr] w fun e w' => e = .returned (.bool true) ∧ w' = w) := fun w => d2 ▸ l4Act_any fe fi dr w
    obtain ⟨E, hE⟩ : ∃ E, x2 + 4 * fe + fi - 20 * (x0 + fe) - 30 * x1 = E := ⟨_, rfl⟩
    have O : Hid (∀ w, Calls Try.prog 33 #[.agg #[.int .i64 (x0 + fe), .int .i64 x1, .int .i64 (x2 + 4 * fe + fi), .int .i64 (x3 + fe), .int .i64 x4, .int .i64 (x5 + 4 * fe + fi), .int .i64 x6]] w fun e w' => e = .returned (.int .i64 E) ∧ Below w.heap.size w w') := fun w => hE ▸ l4Over_any (x0 + fe) x1 (x2 + 4 * fe + fi) (x3 + fe) x4 (x5 + 4 * fe + fi) x6 w (by omega) (by omega) (by omega) (by omega) (by omega) (by omega)
    obtain ⟨n, hn⟩ : ∃ n, boilN E (x0 + fe) x1 = n := ⟨_, rfl⟩
    obtain ⟨m, hm⟩ : ∃ m, min dr (x1 + n) = m := ⟨_, rfl⟩
    obtain ⟨n0, n1⟩ := boil_bounds (e := E) (a := x0 + fe) (b := x1) (by omega) (by omega)
    rw [hn] at n0 n1
    rw [stepD_eq x0 x1 x2 x3 x4 x5 x6 fe fi dr E n m hE hn hm]
    have hm2 : (if x1 + n < dr then x1 + n else dr) = m := by rw [min_if]; exact hm
    rcases Int.lt_trichotomy E 0 with s | s | s
    · have hn2 : (if (9 - E) / 10 < x1 then (9 - E) / 10 else x1) = -n := by rw [min_if, ← hn, boil_neg s]; omega
      exact specStep_neg x0 x1 x2 x3 x4 x5 x6 fe fi dr E n m w b0.1 b0.2 b1.1 b1.2 b2.1 b2.2 b3.1 b3.2 b4.1 b4.2 b5.1 b5.2 b6.1 b6.2 a0.1 a0.2 a1.1 a1.2 a2.1 a2.2 f1 f2 K A O (by omega) (by omega) n0 n1 (by omega) (by omega) (by omega) s hn2 hm2
    · rw [boil_zero s] at hn
      subst hn
      have key := specStep_zero x0 x1 x2 x3 x4 x5 x6 fe fi dr E m w b0.1 b0.2 b1.1 b1.2 b2.1 b2.2 b3.1 b3.2 b4.1 b4.2 b5.1 b5.2 b6.1 b6.2 a0.1 a0.2 a1.1 a1.2 a2.1 a2.2 f1 f2 K A O (by omega) (by omega) (by omega) (by omega) (by omega) s (by simpa using hm2)
      simpa using key
    · have hn2 : (if E / 10 < x0 + fe then E / 10 else x0 + fe) = n := by rw [min_if, ← hn, boil_pos s]
      exact specStep_pos x0 x1 x2 x3 x4 x5 x6 fe fi dr E n m w b0.1 b0.2 b1.1 b1.2 b2.1 b2.2 b3.1 b3.2 b4.1 b4.2 b5.1 b5.2 b6.1 b6.2 a0.1 a0.2 a1.1 a1.2 a2.1 a2.2 f1 f2 K A O (by omega) (by omega) n0 n1 (by omega) (by omega) (by omega) s hn2 hm2
end Go.Proofs.Ytjiojofgpdimaaa
