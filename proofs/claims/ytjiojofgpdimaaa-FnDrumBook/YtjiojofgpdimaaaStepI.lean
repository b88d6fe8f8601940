/-
What is proved: the program's step of a drum, for all int64s.
-/
import Derived.Test.YtjiojofgpdimaaaDrumM
import Derived.Test.YtjiojofgpdimaaaStepS
namespace Go.Proofs.Ytjiojofgpdimaaa
set_option maxRecDepth 40000
open Go.RowKit
set_option linter.unusedVariables false

set_option maxHeartbeats 1000000 in
theorem implStep_no1 (x0 x1 x2 x3 x4 x5 x6 fe fi dr : Int) (w : World)
    (K : Hid (∀ w, Calls Try.prog 11 #[.agg #[.int .i64 x0, .int .i64 x1, .int .i64 x2, .int .i64 x3, .int .i64 x4, .int .i64 x5, .int .i64 x6]] w fun e w' => e = .returned (.bool false) ∧ Below w.heap.size w w')) :
    Calls Try.prog 14 #[.agg #[.int .i64 x0, .int .i64 x1, .int .i64 x2, .int .i64 x3, .int .i64 x4, .int .i64 x5, .int .i64 x6], .int .i64 fe, .int .i64 fi, .int .i64 dr] w fun e w' => e = .returned (.tuple #[drum0, .bool false]) ∧ Below w.heap.size w w' := by
  go_enter Try.func14, Try.ntmps14
  go_wp2_with fail
  refine (K.out _).mono ?_
  rintro e w1 ⟨rfl, hb⟩
  obtain ⟨hc, hf⟩ := bcell hb
  have z1 : w.heap.size + 1 < w1.heap.size := by have := hb.size; simp at this; omega
  have B1 : Below w.heap.size w w1 := Below.trans (by repeat (first | with_reducible exact Below.refl _ _ | with_reducible refine Below.setCell ?_ (by first | omega | (simp; done) | (simp; omega)) _ | with_reducible refine bDrewN ?_ _ | with_reducible refine Below.drew ?_ | with_reducible refine Below.alloc ?_ (by first | omega | (simp; done) | (simp; omega)) _)) (hb.mono (by first | omega | (simp; done) | (simp; omega)))
  go_wp2
  refine bodyPost_ret (v := .tuple #[drum0, .bool false]) (by simp [results, Try.results14, go_sem, hc, drum0]) rfl ⟨rfl, ?_⟩
  exact (by repeat (first | with_reducible exact Below.refl _ _ | with_reducible exact B1 | with_reducible refine Below.setCell ?_ (by first | omega | (simp; done) | (simp; omega)) _ | with_reducible refine bDrewN ?_ _ | with_reducible refine Below.drew ?_ | with_reducible refine Below.alloc ?_ (by first | omega | (simp; done) | (simp; omega)) _))
set_option maxHeartbeats 1000000 in
theorem implStep_no2 (x0 x1 x2 x3 x4 x5 x6 fe fi dr : Int) (w : World)
    (K : Hid (∀ w, Calls Try.prog 11 #[.agg #[.int .i64 x0, .int .i64 x1, .int .i64 x2, .int .i64 x3, .int .i64 x4, .int .i64 x5, .int .i64 x6]] w fun e w' => e = .returned (.bool true) ∧ Below w.heap.size w w'))
    (T : Hid (∀ w, Calls Try.prog 34 #[.agg #[.int .i64 x0, .int .i64 x1, .int .i64 x2, .int .i64 x3, .int .i64 x4, .int .i64 x5, .int .i64 x6], .agg #[.int .i64 fe, .int .i64 fi, .int .i64 dr]] w fun e w' => e = .returned (.bool false) ∧ Below w.heap.size w w')) :
    Calls Try.prog 14 #[.agg #[.int .i64 x0, .int .i64 x1, .int .i64 x2, .int .i64 x3, .int .i64 x4, .int .i64 x5, .int .i64 x6], .int .i64 fe, .int .i64 fi, .int .i64 dr] w fun e w' => e = .returned (.tuple #[drum0, .bool false]) ∧ Below w.heap.size w w' := by
  go_enter Try.func14, Try.ntmps14
  go_wp2_with fail
  refine (K.out _).mono ?_
  rintro e w1 ⟨rfl, hb⟩
  have q0 : w1.cell? ⟨w.heap.size, 0, none⟩ = some (.int .i64 x0) := by rw [hb.cell (by first | omega | (simp; done) | (simp; omega))]; simp
  have q1 : w1.cell? ⟨w.heap.size, 1, none⟩ = some (.int .i64 x1) := by rw [hb.cell (by first | omega | (simp; done) | (simp; omega))]; simp
  have q2 : w1.cell? ⟨w.heap.size, 2, none⟩ = some (.int .i64 x2) := by rw [hb.cell (by first | omega | (simp; done) | (simp; omega))]; simp
  have q3 : w1.cell? ⟨w.heap.size, 3, none⟩ = some (.int .i64 x3) := by rw [hb.cell (by first | omega | (simp; done) | (simp; omega))]; simp
  have q4 : w1.cell? ⟨w.heap.size, 4, none⟩ = some (.int .i64 x4) := by rw [hb.cell (by first | omega | (simp; done) | (simp; omega))]; simp
  have q5 : w1.cell? ⟨w.heap.size, 5, none⟩ = some (.int .i64 x5) := by rw [hb.cell (by first | omega | (simp; done) | (simp; omega))]; simp
  have q6 : w1.cell? ⟨w.heap.size, 6, none⟩ = some (.int .i64 x6) := by rw [hb.cell (by first | omega | (simp; done) | (simp; omega))]; simp
  have z1 : w.heap.size + 1 < w1.heap.size := by have := hb.size; simp at this; omega
  have z1a : w.heap.size < w1.heap.size := by omega
  have B1 : Below w.heap.size w w1 := Below.trans (by repeat (first | with_reducible exact Below.refl _ _ | with_reducible refine Below.setCell ?_ (by first | omega | (simp; done) | (simp; omega)) _ | with_reducible refine bDrewN ?_ _ | with_reducible refine Below.drew ?_ | with_reducible refine Below.alloc ?_ (by first | omega | (simp; done) | (simp; omega)) _)) (hb.mono (by first | omega | (simp; done) | (simp; omega)))
  go_wp2_with fail
  refine (T.out _).mono ?_
  rintro e w2 ⟨rfl, hb2⟩
  have hb3 := Below.trans hb (hb2.mono hb.size)
  obtain ⟨hc, hf⟩ := bcell hb3
  have z2 : w.heap.size + 1 < w2.heap.size := by have := hb2.size; omega
  have B2 : Below w.heap.size w w2 := Below.trans B1 (hb2.mono (by first | omega | (simp; done) | (simp; omega)))
  go_wp2
  refine bodyPost_ret (v := .tuple #[drum0, .bool false]) (by simp [results, Try.results14, go_sem, hc, drum0]) rfl ⟨rfl, ?_⟩
  exact (by repeat (first | with_reducible exact Below.refl _ _ | with_reducible exact B2 | with_reducible refine Below.setCell ?_ (by first | omega | (simp; done) | (simp; omega)) _ | with_reducible refine bDrewN ?_ _ | with_reducible refine Below.drew ?_ | with_reducible refine Below.alloc ?_ (by first | omega | (simp; done) | (simp; omega)) _))
set_option maxHeartbeats 2000000 in
theorem implStep_yes (x0 x1 x2 x3 x4 x5 x6 fe fi dr n m : Int) (w : World)
    (K : Hid (∀ w, Calls Try.prog 11 #[.agg #[.int .i64 x0, .int .i64 x1, .int .i64 x2, .int .i64 x3, .int .i64 x4, .int .i64 x5, .int .i64 x6]] w fun e w' => e = .returned (.bool true) ∧ Below w.heap.size w w'))
    (T : Hid (∀ w, Calls Try.prog 34 #[.agg #[.int .i64 x0, .int .i64 x1, .int .i64 x2, .int .i64 x3, .int .i64 x4, .int .i64 x5, .int .i64 x6], .agg #[.int .i64 fe, .int .i64 fi, .int .i64 dr]] w fun e w' => e = .returned (.bool true) ∧ Below w.heap.size w w'))
    (H : Hid (∀ p w, DrumAt w p x0 x1 x2 x3 x4 x5 x6 → Calls Try.prog 35 #[.pointer (some ⟨p, 0, none⟩), .int .i64 fe, .int .i64 fi] w fun e w' => e = .returned (.tuple #[]) ∧ DrumAt w' p (x0 + fe) x1 (x2 + (4 * fe + fi)) (x3 + fe) x4 (x5 + (4 * fe + fi)) x6 ∧ Beside p w w'))
    (S : Hid (∀ p w, DrumAt w p (x0 + fe) x1 (x2 + (4 * fe + fi)) (x3 + fe) x4 (x5 + (4 * fe + fi)) x6 → Calls Try.prog 36 #[.pointer (some ⟨p, 0, none⟩)] w fun e w' => e = .returned (.tuple #[]) ∧ DrumAt w' p (x0 + fe - n) (x1 + n) (x2 + (4 * fe + fi)) (x3 + fe) x4 (x5 + (4 * fe + fi)) x6 ∧ Beside p w w'))
    (L : Hid (∀ p w, DrumAt w p (x0 + fe - n) (x1 + n) (x2 + (4 * fe + fi)) (x3 + fe) x4 (x5 + (4 * fe + fi)) x6 → Calls Try.prog 37 #[.pointer (some ⟨p, 0, none⟩), .int .i64 dr] w fun e w' => e = .returned (.tuple #[]) ∧ DrumAt w' p (x0 + fe - n) (x1 + n - m) (x2 + (4 * fe + fi) - 30 * m) (x3 + fe) (x4 + m) (x5 + (4 * fe + fi)) (x6 + 30 * m) ∧ Beside p w w')) :
    Calls Try.prog 14 #[.agg #[.int .i64 x0, .int .i64 x1, .int .i64 x2, .int .i64 x3, .int .i64 x4, .int .i64 x5, .int .i64 x6], .int .i64 fe, .int .i64 fi, .int .i64 dr] w fun e w' => e = .returned (.tuple #[.agg #[.int .i64 (x0 + fe - n), .int .i64 (x1 + n - m), .int .i64 (x2 + (4 * fe + fi) - 30 * m), .int .i64 (x3 + fe), .int .i64 (x4 + m), .int .i64 (x5 + (4 * fe + fi)), .int .i64 (x6 + 30 * m)], .bool true]) ∧ Below w.heap.size w w' := by
  go_enter Try.func14, Try.ntmps14
  go_wp2_with fail
  refine (K.out _).mono ?_
  rintro e w1 ⟨rfl, hb⟩
  have q0 : w1.cell? ⟨w.heap.size, 0, none⟩ = some (.int .i64 x0) := by rw [hb.cell (by first | omega | (simp; done) | (simp; omega))]; simp
  have q1 : w1.cell? ⟨w.heap.size, 1, none⟩ = some (.int .i64 x1) := by rw [hb.cell (by first | omega | (simp; done) | (simp; omega))]; simp
  have q2 : w1.cell? ⟨w.heap.size, 2, none⟩ = some (.int .i64 x2) := by rw [hb.cell (by first | omega | (simp; done) | (simp; omega))]; simp
  have q3 : w1.cell? ⟨w.heap.size, 3, none⟩ = some (.int .i64 x3) := by rw [hb.cell (by first | omega | (simp; done) | (simp; omega))]; simp
  have q4 : w1.cell? ⟨w.heap.size, 4, none⟩ = some (.int .i64 x4) := by rw [hb.cell (by first | omega | (simp; done) | (simp; omega))]; simp
  have q5 : w1.cell? ⟨w.heap.size, 5, none⟩ = some (.int .i64 x5) := by rw [hb.cell (by first | omega | (simp; done) | (simp; omega))]; simp
  have q6 : w1.cell? ⟨w.heap.size, 6, none⟩ = some (.int .i64 x6) := by rw [hb.cell (by first | omega | (simp; done) | (simp; omega))]; simp
  have z1 : w.heap.size + 1 < w1.heap.size := by have := hb.size; simp at this; omega
  have z1a : w.heap.size < w1.heap.size := by omega
  have fz : ∀ o, w1.frozen? ⟨w.heap.size, o, none⟩ = false := fun o => by rw [hb.frozen (by first | omega | (simp; done) | (simp; omega))]; simp [go_sem]
  have fy : ∀ o, w1.frozen? ⟨w.heap.size + 1, o, none⟩ = false := fun o => by rw [hb.frozen (by first | omega | (simp; done) | (simp; omega))]; simp [go_sem]
  have r0 : w1.cell? ⟨w.heap.size + 1, 0, none⟩ = some (.int .i64 0) := by rw [hb.cell (by first | omega | (simp; done) | (simp; omega))]; simp
  have r1 : w1.cell? ⟨w.heap.size + 1, 1, none⟩ = some (.int .i64 0) := by rw [hb.cell (by first | omega | (simp; done) | (simp; omega))]; simp
  have r2 : w1.cell? ⟨w.heap.size + 1, 2, none⟩ = some (.int .i64 0) := by rw [hb.cell (by first | omega | (simp; done) | (simp; omega))]; simp
  have r3 : w1.cell? ⟨w.heap.size + 1, 3, none⟩ = some (.int .i64 0) := by rw [hb.cell (by first | omega | (simp; done) | (simp; omega))]; simp
  have r4 : w1.cell? ⟨w.heap.size + 1, 4, none⟩ = some (.int .i64 0) := by rw [hb.cell (by first | omega | (simp; done) | (simp; omega))]; simp
  have r5 : w1.cell? ⟨w.heap.size + 1, 5, none⟩ = some (.int .i64 0) := by rw [hb.cell (by first | omega | (simp; done) | (simp; omega))]; simp
  have r6 : w1.cell? ⟨w.heap.size + 1, 6, none⟩ = some (.int .i64 0) := by rw [hb.cell (by first | omega | (simp; done) | (simp; omega))]; simp
  have B1 : Below w.heap.size w w1 := Below.trans (by repeat (first | with_reducible exact Below.refl _ _ | with_reducible refine Below.setCell ?_ (by first | omega | (simp; done) | (simp; omega)) _ | with_reducible refine bDrewN ?_ _ | with_reducible refine Below.drew ?_ | with_reducible refine Below.alloc ?_ (by first | omega | (simp; done) | (simp; omega)) _)) (hb.mono (by first | omega | (simp; done) | (simp; omega)))
  go_wp2_with fail
  refine (T.out _).mono ?_
  rintro e w2 ⟨rfl, hb2⟩
  have B2 : Below w.heap.size w w2 := Below.trans B1 (hb2.mono (by first | omega | (simp; done) | (simp; omega)))
  have D2 : Hid (DrumAt w2 w.heap.size x0 x1 x2 x3 x4 x5 x6) := by
    have D1 : DrumAt w1 w.heap.size x0 x1 x2 x3 x4 x5 x6 := ⟨z1a, fz, q0, q1, q2, q3, q4, q5, q6⟩
    exact D1.below hb2
  have S2 : Beside w.heap.size w1 w2 := Beside.of hb2
  clear hb q0 q1 q2 q3 q4 q5 q6 fz
  go_wp2_with fail
  refine (H.out _ _ D2.out).mono ?_
  rintro e w3 ⟨rfl, hd3, S3⟩
  have D3 : Hid _ := hd3
  clear hd3 D2
  go_wp2_with fail
  refine (S.out _ _ D3.out).mono ?_
  rintro e w4 ⟨rfl, hd4, S4⟩
  have D4 : Hid _ := hd4
  clear hd4 D3
  go_wp2_with fail
  refine (L.out _ _ D4.out).mono ?_
  rintro e w5 ⟨rfl, hd5, S5⟩
  have SS : Beside w.heap.size w1 w5 := ((S2.trans S3).trans S4).trans S5
  have B5 : Below w.heap.size w w5 := Below.trans B1 (SS.below (Nat.le_refl _) (by first | omega | (simp; done) | (simp; omega)))
  have d0 : w5.cell? ⟨w.heap.size + 1, 0, none⟩ = some (.int .i64 0) := (SS.cell (p := ⟨w.heap.size + 1, 0, none⟩) z1 (by simp)).trans r0
  have d1 : w5.cell? ⟨w.heap.size + 1, 1, none⟩ = some (.int .i64 0) := (SS.cell (p := ⟨w.heap.size + 1, 1, none⟩) z1 (by simp)).trans r1
  have d2 : w5.cell? ⟨w.heap.size + 1, 2, none⟩ = some (.int .i64 0) := (SS.cell (p := ⟨w.heap.size + 1, 2, none⟩) z1 (by simp)).trans r2
  have d3 : w5.cell? ⟨w.heap.size + 1, 3, none⟩ = some (.int .i64 0) := (SS.cell (p := ⟨w.heap.size + 1, 3, none⟩) z1 (by simp)).trans r3
  have d4 : w5.cell? ⟨w.heap.size + 1, 4, none⟩ = some (.int .i64 0) := (SS.cell (p := ⟨w.heap.size + 1, 4, none⟩) z1 (by simp)).trans r4
  have d5 : w5.cell? ⟨w.heap.size + 1, 5, none⟩ = some (.int .i64 0) := (SS.cell (p := ⟨w.heap.size + 1, 5, none⟩) z1 (by simp)).trans r5
  have d6 : w5.cell? ⟨w.heap.size + 1, 6, none⟩ = some (.int .i64 0) := (SS.cell (p := ⟨w.heap.size + 1, 6, none⟩) z1 (by simp)).trans r6
  have gy : ∀ o, w5.frozen? ⟨w.heap.size + 1, o, none⟩ = false := fun o => (SS.frozen (p := ⟨w.heap.size + 1, o, none⟩) z1 (by simp)).trans (fy o)
  have z5 : w.heap.size + 1 < w5.heap.size := Nat.lt_of_lt_of_le z1 SS.2.2.2.1
  clear D4 S2 S3 S4 S5 SS r0 r1 r2 r3 r4 r5 r6 fy hb2 B1 B2
  obtain ⟨hp, hf, c0, c1, c2, c3, c4, c5, c6⟩ := hd5
  go_wp2
  refine bodyPost_ret (v := .tuple #[.agg #[.int .i64 (x0 + fe - n), .int .i64 (x1 + n - m), .int .i64 (x2 + (4 * fe + fi) - 30 * m), .int .i64 (x3 + fe), .int .i64 (x4 + m), .int .i64 (x5 + (4 * fe + fi)), .int .i64 (x6 + 30 * m)], .bool true]) (by simp [results, Try.results14, go_sem, d0, d1, d2, d3, d4, d5, d6]) rfl ⟨rfl, ?_⟩
  exact (by repeat (first | with_reducible exact Below.refl _ _ | with_reducible exact B5 | with_reducible refine Below.setCell ?_ (by first | omega | (simp; done) | (simp; omega)) _ | with_reducible refine bDrewN ?_ _ | with_reducible refine Below.drew ?_ | with_reducible refine Below.alloc ?_ (by first | omega | (simp; done) | (simp; omega)) _))

theorem stepD_eq2 (x0 x1 x2 x3 x4 x5 x6 fe fi dr E n m : Int) (hE : x2 + (4 * fe + fi) - 20 * (x0 + fe) - 30 * x1 = E) (hn : boilN E (x0 + fe) x1 = n) (hm : min dr (x1 + n) = m) : stepD x0 x1 x2 x3 x4 x5 x6 fe fi dr = .agg #[.int .i64 (x0 + fe - n), .int .i64 (x1 + n - m), .int .i64 (x2 + (4 * fe + fi) - 30 * m), .int .i64 (x3 + fe), .int .i64 (x4 + m), .int .i64 (x5 + (4 * fe + fi)), .int .i64 (x6 + 30 * m)] := by
  have e1 : x2 + 4 * fe + fi = x2 + (4 * fe + fi) := by omega
  have e2 : x5 + 4 * fe + fi = x5 + (4 * fe + fi) := by omega
  unfold stepD
  simp only [e1, e2, hE, hn, hm]
theorem implDrumStep_any (x0 x1 x2 x3 x4 x5 x6 fe fi dr : Int) (w : World) :
    Calls Try.prog 14 #[.agg #[.int .i64 x0, .int .i64 x1, .int .i64 x2, .int .i64 x3, .int .i64 x4, .int .i64 x5, .int .i64 x6], .int .i64 fe, .int .i64 fi, .int .i64 dr] w fun e w' => e = .returned (.tuple #[stepV x0 x1 x2 x3 x4 x5 x6 fe fi dr, .bool (stepOk x0 x1 x2 x3 x4 x5 x6 fe fi dr)]) ∧ Below w.heap.size w w' := by
  have K : ∀ w, Calls Try.prog 11 #[.agg #[.int .i64 x0, .int .i64 x1, .int .i64 x2, .int .i64 x3, .int .i64 x4, .int .i64 x5, .int .i64 x6]] w fun e w' => e = .returned (.bool (drumB x0 x1 x2 x3 x4 x5 x6)) ∧ Below w.heap.size w w' := fun w => implDrumOk_any x0 x1 x2 x3 x4 x5 x6 w
  cases h : stepOk x0 x1 x2 x3 x4 x5 x6 fe fi dr
  · have e1 : stepV x0 x1 x2 x3 x4 x5 x6 fe fi dr = drum0 := by unfold stepV; rw [h]; rfl
    rw [e1]
    cases d : drumB x0 x1 x2 x3 x4 x5 x6
    · rw [d] at K
      exact implStep_no1 x0 x1 x2 x3 x4 x5 x6 fe fi dr w K
    · obtain ⟨b0, b1, b2, b3, b4, b5, b6, -⟩ := drum_yes d
      have T : ∀ w, Calls Try.prog 34 #[.agg #[.int .i64 x0, .int .i64 x1, .int .i64 x2, .int .i64 x3, .int .i64 x4, .int .i64 x5, .int .i64 x6], .agg #[.int .i64 fe, .int .i64 fi, .int .i64 dr]] w fun e w' => e = .returned (.bool (actB fe fi dr && fitB x3 x5 fe fi)) ∧ Below w.heap.size w w' := fun w => takes_any x0 x1 x2 x3 x4 x5 x6 fe fi dr w b3 b5
      have t : (actB fe fi dr && fitB x3 x5 fe fi) = false := by
        unfold stepOk at h; rw [d, Bool.true_and] at h; exact h
      rw [d] at K
      rw [t] at T
      exact implStep_no2 x0 x1 x2 x3 x4 x5 x6 fe fi dr w K T
  · have e1 : stepV x0 x1 x2 x3 x4 x5 x6 fe fi dr = stepD x0 x1 x2 x3 x4 x5 x6 fe fi dr := by unfold stepV; rw [h]; rfl
    rw [e1]
    obtain ⟨b0, b1, b2, b3, b4, b5, b6, a0, a1, a2, f1, f2, d1, d2⟩ := step_facts h
    have T : ∀ w, Calls Try.prog 34 #[.agg #[.int .i64 x0, .int .i64 x1, .int .i64 x2, .int .i64 x3, .int .i64 x4, .int .i64 x5, .int .i64 x6], .agg #[.int .i64 fe, .int .i64 fi, .int .i64 dr]] w fun e w' => e = .returned (.bool (actB fe fi dr && fitB x3 x5 fe fi)) ∧ Below w.heap.size w w' := fun w => takes_any x0 x1 x2 x3 x4 x5 x6 fe fi dr w b3 b5
    have t : (actB fe fi dr && fitB x3 x5 fe fi) = true := by
      unfold stepOk at h; rw [d1, Bool.true_and] at h; exact h
    rw [d1] at K
    rw [t] at T
    obtain ⟨E, hE⟩ : ∃ E, x2 + (4 * fe + fi) - 20 * (x0 + fe) - 30 * x1 = E := ⟨_, rfl⟩
    obtain ⟨n, hn⟩ : ∃ n, boilN E (x0 + fe) x1 = n := ⟨_, rfl⟩
    obtain ⟨m, hm⟩ : ∃ m, min dr (x1 + n) = m := ⟨_, rfl⟩
    obtain ⟨n0, n1⟩ := boil_bounds (e := E) (a := x0 + fe) (b := x1) (by omega) (by omega)
    rw [hn] at n0 n1
    rw [stepD_eq2 x0 x1 x2 x3 x4 x5 x6 fe fi dr E n m hE hn hm]
    have hm2 : (if x1 + n < dr then x1 + n else dr) = m := by rw [min_if]; exact hm
    refine implStep_yes x0 x1 x2 x3 x4 x5 x6 fe fi dr n m w K T (fun p w hd => heatUp_any p x0 x1 x2 x3 x4 x5 x6 fe fi w hd b0.1 b0.2 b2.1 b2.2 b3.1 b3.2 b5.1 b5.2 a0.1 a0.2 a1.1 a1.2) ?_ (fun p w hd => letOut_any p _ _ _ _ _ _ _ dr m w hd (by omega) (by omega) (by omega) (by omega) (by omega) (by omega) (by omega) (by omega) (by omega) (by omega) hm2)
    intro p w hd
    rcases Int.lt_or_le E 0 with s | s
    · have hn2 : (if x1 < (9 - E) / 10 then x1 else (9 - E) / 10) = -n := by rw [min_if, ← hn, boil_neg s]; omega
      exact settle_down p _ _ _ _ _ _ _ E n _ w hd (by omega) (by omega) (by omega) (by omega) (by omega) (by omega) hE (by omega) (by omega) n0 n1 s rfl hn2
    · have hn2 : (if x0 + fe < E / 10 then x0 + fe else E / 10) = n := by
        rw [min_if, ← hn]
        rcases Int.lt_or_eq_of_le s with g | g
        · rw [boil_pos g]; omega
        · rw [boil_zero g.symm]; omega
      exact settle_up p _ _ _ _ _ _ _ E n w hd (by omega) (by omega) (by omega) (by omega) (by omega) (by omega) hE (by omega) (by omega) n0 n1 s hn2
end Go.Proofs.Ytjiojofgpdimaaa
