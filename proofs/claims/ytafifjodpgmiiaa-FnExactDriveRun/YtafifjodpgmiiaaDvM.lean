/-
What is proved: what a step makes of a drive, as the specification tells it (a part of the cases).
-/
import Derived.Test.YtafifjodpgmiiaaDv
namespace Go.Proofs.Ytafifjodpgmiiaa
set_option maxRecDepth 40000
open Go.ChangeShapes Go.WideShapes Go.ChangeAt Go.RowKit
set_option linter.unusedVariables false
set_option linter.unusedSimpArgs false

set_option maxHeartbeats 8000000 in
theorem specDrive_s1 (P T : Int) (F : Bool) (sp : Int) (jam : Bool) (w : World)  (kd : drvB P 1 T = true) (ks : inB 1 100 sp = true) : Calls Try.prog 26 #[.agg #[.int .i64 P, .int .i64 1, .int .i64 T, .bool F], .int .i64 1, .int .i64 sp, .bool jam] w fun e w' => e = .returned (.tuple #[.agg #[.int .i64 (aftV P 1 T F sp jam).1, .int .i64 (aftV P 1 T F sp jam).2.1, .int .i64 (aftV P 1 T F sp jam).2.2.1, .bool (aftV P 1 T F sp jam).2.2.2], .bool true]) ∧ Below w.heap.size w w' := by
  obtain ⟨⟨p0, p1⟩, -, ⟨t0, t1⟩, -⟩ := drv_yes kd
  obtain ⟨s0, s1⟩ := inB_yes ks
  cases jam
  · by_cases hh : 100 ≤ P + sp
    · have e1 : mvV P 1 sp false = 100 := by unfold mvV; rw [if_neg (by decide)]; omega
      have ea : aftV P 1 T F sp false = (100, 0, 0, F) := by exact aft_hit (by decide) (by decide) e1
      rw [ea]
      show Calls Try.prog 26 _ w fun e w' => e = .returned (.tuple #[.agg #[.int .i64 100, .int .i64 0, .int .i64 0, .bool F], .bool true]) ∧ Below w.heap.size w w'
      clear e1 ea
      have q1 : (if P + sp < 100 then P + sp else 100) = 100 := if_neg (by omega)
      have q2 : (if 100 < P + sp then 100 else P + sp) = 100 := by split <;> omega
      go_enter Try.func26, Try.ntmps26
      go_wp2_with fail
      refine (l17Drive_any _ _ _ _ _).mono ?_
      rintro e w1 ⟨rfl, rfl⟩
      rw [kd]
      go_wp2_with fail
      refine (l1In_is _ _ _ _).mono ?_
      rintro e w1 ⟨rfl, rfl⟩
      rw [show inB (-1) 1 (1) = true from by decide]
      go_wp2_with fail
      refine (l1In_is _ _ _ _).mono ?_
      rintro e w1 ⟨rfl, rfl⟩
      rw [ks]
      go_wp2
      exact bodyPost_ret (v := .tuple #[.agg #[.int .i64 100, .int .i64 0, .int .i64 0, .bool F], .bool true]) (by simp [results, Try.results26, go_sem]) rfl ⟨rfl, (by repeat (first | with_reducible exact Below.refl _ _ | with_reducible refine Below.setCell ?_ (by first | omega | (simp; done) | (simp; omega)) _ | with_reducible refine bDrewN ?_ _ | with_reducible refine Below.drew ?_ | with_reducible refine Below.alloc ?_ (by first | omega | (simp; done) | (simp; omega)) _))⟩
    · have e1 : mvV P 1 sp false = (P + sp) := by unfold mvV; rw [if_neg (by decide)]; omega
      have e2 : ¬ (P + sp) = 100 := by omega
      have ea : aftV P 1 T F sp false = ((P + sp), 1, (min (T + 1) 20), (F || decide (min (T + 1) 20 = 20))) := by exact aft_miss (by decide) (by decide) e1 e2 rfl
      rw [ea]
      have q1 : (if (P + sp) < 100 then (P + sp) else 100) = (P + sp) := if_pos (by omega)
      have q3 : (if 0 < (P + sp) then (P + sp) else 0) = (P + sp) := if_pos (by omega)
      have q2 : (if 100 < (P + sp) then 100 else (P + sp)) = (P + sp) := if_neg (by omega)
      have q4 : ((P + sp) == 100) = false := by simpa using e2
      clear e1 ea e2
      by_cases ht : 19 ≤ T
      · have m1 : (if T + 1 < 20 then T + 1 else 20) = 20 := if_neg (by omega)
        have m2 : (if 20 < T + 1 then 20 else T + 1) = 20 := by split <;> omega
        have m3 : min (T + 1) 20 = 20 := by omega
        rw [m3]
        clear m3
        rw [show decide ((20 : Int) = 20) = true from rfl]
        cases F
        · show Calls Try.prog 26 _ w fun e w' => e = .returned (.tuple #[.agg #[.int .i64 (P + sp), .int .i64 1, .int .i64 20, .bool true], .bool true]) ∧ Below w.heap.size w w'
          go_enter Try.func26, Try.ntmps26
          go_wp2_with fail
          refine (l17Drive_any _ _ _ _ _).mono ?_
          rintro e w1 ⟨rfl, rfl⟩
          rw [kd]
          go_wp2_with fail
          refine (l1In_is _ _ _ _).mono ?_
          rintro e w1 ⟨rfl, rfl⟩
          rw [show inB (-1) 1 (1) = true from by decide]
          go_wp2_with fail
          refine (l1In_is _ _ _ _).mono ?_
          rintro e w1 ⟨rfl, rfl⟩
          rw [ks]
          go_wp2
          exact bodyPost_ret (v := .tuple #[.agg #[.int .i64 (P + sp), .int .i64 1, .int .i64 20, .bool true], .bool true]) (by simp [results, Try.results26, go_sem]) rfl ⟨rfl, (by repeat (first | with_reducible exact Below.refl _ _ | with_reducible refine Below.setCell ?_ (by first | omega | (simp; done) | (simp; omega)) _ | with_reducible refine bDrewN ?_ _ | with_reducible refine Below.drew ?_ | with_reducible refine Below.alloc ?_ (by first | omega | (simp; done) | (simp; omega)) _))⟩
        · show Calls Try.prog 26 _ w fun e w' => e = .returned (.tuple #[.agg #[.int .i64 (P + sp), .int .i64 1, .int .i64 20, .bool true], .bool true]) ∧ Below w.heap.size w w'
          go_enter Try.func26, Try.ntmps26
          go_wp2_with fail
          refine (l17Drive_any _ _ _ _ _).mono ?_
          rintro e w1 ⟨rfl, rfl⟩
          rw [kd]
          go_wp2_with fail
          refine (l1In_is _ _ _ _).mono ?_
          rintro e w1 ⟨rfl, rfl⟩
          rw [show inB (-1) 1 (1) = true from by decide]
          go_wp2_with fail
          refine (l1In_is _ _ _ _).mono ?_
          rintro e w1 ⟨rfl, rfl⟩
          rw [ks]
          go_wp2
          exact bodyPost_ret (v := .tuple #[.agg #[.int .i64 (P + sp), .int .i64 1, .int .i64 20, .bool true], .bool true]) (by simp [results, Try.results26, go_sem]) rfl ⟨rfl, (by repeat (first | with_reducible exact Below.refl _ _ | with_reducible refine Below.setCell ?_ (by first | omega | (simp; done) | (simp; omega)) _ | with_reducible refine bDrewN ?_ _ | with_reducible refine Below.drew ?_ | with_reducible refine Below.alloc ?_ (by first | omega | (simp; done) | (simp; omega)) _))⟩
      · have m1 : (if T + 1 < 20 then T + 1 else 20) = T + 1 := if_pos (by omega)
        have m2 : (if 20 < T + 1 then 20 else T + 1) = T + 1 := if_neg (by omega)
        have m3 : min (T + 1) 20 = T + 1 := by omega
        have m4 : (T + 1 == 20) = false := by simpa using (by omega : ¬ T + 1 = 20)
        have m5 : decide (T + 1 = 20) = false := by simpa using (by omega : ¬ T + 1 = 20)
        rw [m3]
        clear m3
        rw [m5]
        clear m5
        cases F
        · show Calls Try.prog 26 _ w fun e w' => e = .returned (.tuple #[.agg #[.int .i64 (P + sp), .int .i64 1, .int .i64 (T + 1), .bool false], .bool true]) ∧ Below w.heap.size w w'
          go_enter Try.func26, Try.ntmps26
          go_wp2_with fail
          refine (l17Drive_any _ _ _ _ _).mono ?_
          rintro e w1 ⟨rfl, rfl⟩
          rw [kd]
          go_wp2_with fail
          refine (l1In_is _ _ _ _).mono ?_
          rintro e w1 ⟨rfl, rfl⟩
          rw [show inB (-1) 1 (1) = true from by decide]
          go_wp2_with fail
          refine (l1In_is _ _ _ _).mono ?_
          rintro e w1 ⟨rfl, rfl⟩
          rw [ks]
          go_wp2
          exact bodyPost_ret (v := .tuple #[.agg #[.int .i64 (P + sp), .int .i64 1, .int .i64 (T + 1), .bool false], .bool true]) (by simp [results, Try.results26, go_sem]) rfl ⟨rfl, (by repeat (first | with_reducible exact Below.refl _ _ | with_reducible refine Below.setCell ?_ (by first | omega | (simp; done) | (simp; omega)) _ | with_reducible refine bDrewN ?_ _ | with_reducible refine Below.drew ?_ | with_reducible refine Below.alloc ?_ (by first | omega | (simp; done) | (simp; omega)) _))⟩
        · show Calls Try.prog 26 _ w fun e w' => e = .returned (.tuple #[.agg #[.int .i64 (P + sp), .int .i64 1, .int .i64 (T + 1), .bool true], .bool true]) ∧ Below w.heap.size w w'
          go_enter Try.func26, Try.ntmps26
          go_wp2_with fail
          refine (l17Drive_any _ _ _ _ _).mono ?_
          rintro e w1 ⟨rfl, rfl⟩
          rw [kd]
          go_wp2_with fail
          refine (l1In_is _ _ _ _).mono ?_
          rintro e w1 ⟨rfl, rfl⟩
          rw [show inB (-1) 1 (1) = true from by decide]
          go_wp2_with fail
          refine (l1In_is _ _ _ _).mono ?_
          rintro e w1 ⟨rfl, rfl⟩
          rw [ks]
          go_wp2
          exact bodyPost_ret (v := .tuple #[.agg #[.int .i64 (P + sp), .int .i64 1, .int .i64 (T + 1), .bool true], .bool true]) (by simp [results, Try.results26, go_sem]) rfl ⟨rfl, (by repeat (first | with_reducible exact Below.refl _ _ | with_reducible refine Below.setCell ?_ (by first | omega | (simp; done) | (simp; omega)) _ | with_reducible refine bDrewN ?_ _ | with_reducible refine Below.drew ?_ | with_reducible refine Below.alloc ?_ (by first | omega | (simp; done) | (simp; omega)) _))⟩
  · by_cases hh : P = 100
    · subst hh
      have ea : aftV 100 1 T F sp true = (100, 0, 0, F) := by exact aft_hit (by decide) (by decide) rfl
      rw [ea]
      show Calls Try.prog 26 _ w fun e w' => e = .returned (.tuple #[.agg #[.int .i64 100, .int .i64 0, .int .i64 0, .bool F], .bool true]) ∧ Below w.heap.size w w'
      clear ea
      go_enter Try.func26, Try.ntmps26
      go_wp2_with fail
      refine (l17Drive_any _ _ _ _ _).mono ?_
      rintro e w1 ⟨rfl, rfl⟩
      rw [kd]
      go_wp2_with fail
      refine (l1In_is _ _ _ _).mono ?_
      rintro e w1 ⟨rfl, rfl⟩
      rw [show inB (-1) 1 (1) = true from by decide]
      go_wp2_with fail
      refine (l1In_is _ _ _ _).mono ?_
      rintro e w1 ⟨rfl, rfl⟩
      rw [ks]
      go_wp2
      exact bodyPost_ret (v := .tuple #[.agg #[.int .i64 100, .int .i64 0, .int .i64 0, .bool F], .bool true]) (by simp [results, Try.results26, go_sem]) rfl ⟨rfl, (by repeat (first | with_reducible exact Below.refl _ _ | with_reducible refine Below.setCell ?_ (by first | omega | (simp; done) | (simp; omega)) _ | with_reducible refine bDrewN ?_ _ | with_reducible refine Below.drew ?_ | with_reducible refine Below.alloc ?_ (by first | omega | (simp; done) | (simp; omega)) _))⟩
    · have e2 : ¬ P = 100 := hh
      have ea : aftV P 1 T F sp true = (P, 1, (min (T + 1) 20), (F || decide (min (T + 1) 20 = 20))) := by exact aft_miss (by decide) (by decide) rfl e2 rfl
      rw [ea]
      have q4 : (P == 100) = false := by simpa using e2
      clear ea e2
      by_cases ht : 19 ≤ T
      · have m1 : (if T + 1 < 20 then T + 1 else 20) = 20 := if_neg (by omega)
        have m2 : (if 20 < T + 1 then 20 else T + 1) = 20 := by split <;> omega
        have m3 : min (T + 1) 20 = 20 := by omega
        rw [m3]
        clear m3
        rw [show decide ((20 : Int) = 20) = true from rfl]
        cases F
        · show Calls Try.prog 26 _ w fun e w' => e = .returned (.tuple #[.agg #[.int .i64 P, .int .i64 1, .int .i64 20, .bool true], .bool true]) ∧ Below w.heap.size w w'
          go_enter Try.func26, Try.ntmps26
          go_wp2_with fail
          refine (l17Drive_any _ _ _ _ _).mono ?_
          rintro e w1 ⟨rfl, rfl⟩
          rw [kd]
          go_wp2_with fail
          refine (l1In_is _ _ _ _).mono ?_
          rintro e w1 ⟨rfl, rfl⟩
          rw [show inB (-1) 1 (1) = true from by decide]
          go_wp2_with fail
          refine (l1In_is _ _ _ _).mono ?_
          rintro e w1 ⟨rfl, rfl⟩
          rw [ks]
          go_wp2
          exact bodyPost_ret (v := .tuple #[.agg #[.int .i64 P, .int .i64 1, .int .i64 20, .bool true], .bool true]) (by simp [results, Try.results26, go_sem]) rfl ⟨rfl, (by repeat (first | with_reducible exact Below.refl _ _ | with_reducible refine Below.setCell ?_ (by first | omega | (simp; done) | (simp; omega)) _ | with_reducible refine bDrewN ?_ _ | with_reducible refine Below.drew ?_ | with_reducible refine Below.alloc ?_ (by first | omega | (simp; done) | (simp; omega)) _))⟩
        · show Calls Try.prog 26 _ w fun e w' => e = .returned (.tuple #[.agg #[.int .i64 P, .int .i64 1, .int .i64 20, .bool true], .bool true]) ∧ Below w.heap.size w w'
          go_enter Try.func26, Try.ntmps26
          go_wp2_with fail
          refine (l17Drive_any _ _ _ _ _).mono ?_
          rintro e w1 ⟨rfl, rfl⟩
          rw [kd]
          go_wp2_with fail
          refine (l1In_is _ _ _ _).mono ?_
          rintro e w1 ⟨rfl, rfl⟩
          rw [show inB (-1) 1 (1) = true from by decide]
          go_wp2_with fail
          refine (l1In_is _ _ _ _).mono ?_
          rintro e w1 ⟨rfl, rfl⟩
          rw [ks]
          go_wp2
          exact bodyPost_ret (v := .tuple #[.agg #[.int .i64 P, .int .i64 1, .int .i64 20, .bool true], .bool true]) (by simp [results, Try.results26, go_sem]) rfl ⟨rfl, (by repeat (first | with_reducible exact Below.refl _ _ | with_reducible refine Below.setCell ?_ (by first | omega | (simp; done) | (simp; omega)) _ | with_reducible refine bDrewN ?_ _ | with_reducible refine Below.drew ?_ | with_reducible refine Below.alloc ?_ (by first | omega | (simp; done) | (simp; omega)) _))⟩
      · have m1 : (if T + 1 < 20 then T + 1 else 20) = T + 1 := if_pos (by omega)
        have m2 : (if 20 < T + 1 then 20 else T + 1) = T + 1 := if_neg (by omega)
        have m3 : min (T + 1) 20 = T + 1 := by omega
        have m4 : (T + 1 == 20) = false := by simpa using (by omega : ¬ T + 1 = 20)
        have m5 : decide (T + 1 = 20) = false := by simpa using (by omega : ¬ T + 1 = 20)
        rw [m3]
        clear m3
        rw [m5]
        clear m5
        cases F
        · show Calls Try.prog 26 _ w fun e w' => e = .returned (.tuple #[.agg #[.int .i64 P, .int .i64 1, .int .i64 (T + 1), .bool false], .bool true]) ∧ Below w.heap.size w w'
          go_enter Try.func26, Try.ntmps26
          go_wp2_with fail
          refine (l17Drive_any _ _ _ _ _).mono ?_
          rintro e w1 ⟨rfl, rfl⟩
          rw [kd]
          go_wp2_with fail
          refine (l1In_is _ _ _ _).mono ?_
          rintro e w1 ⟨rfl, rfl⟩
          rw [show inB (-1) 1 (1) = true from by decide]
          go_wp2_with fail
          refine (l1In_is _ _ _ _).mono ?_
          rintro e w1 ⟨rfl, rfl⟩
          rw [ks]
          go_wp2
          exact bodyPost_ret (v := .tuple #[.agg #[.int .i64 P, .int .i64 1, .int .i64 (T + 1), .bool false], .bool true]) (by simp [results, Try.results26, go_sem]) rfl ⟨rfl, (by repeat (first | with_reducible exact Below.refl _ _ | with_reducible refine Below.setCell ?_ (by first | omega | (simp; done) | (simp; omega)) _ | with_reducible refine bDrewN ?_ _ | with_reducible refine Below.drew ?_ | with_reducible refine Below.alloc ?_ (by first | omega | (simp; done) | (simp; omega)) _))⟩
        · show Calls Try.prog 26 _ w fun e w' => e = .returned (.tuple #[.agg #[.int .i64 P, .int .i64 1, .int .i64 (T + 1), .bool true], .bool true]) ∧ Below w.heap.size w w'
          go_enter Try.func26, Try.ntmps26
          go_wp2_with fail
          refine (l17Drive_any _ _ _ _ _).mono ?_
          rintro e w1 ⟨rfl, rfl⟩
          rw [kd]
          go_wp2_with fail
          refine (l1In_is _ _ _ _).mono ?_
          rintro e w1 ⟨rfl, rfl⟩
          rw [show inB (-1) 1 (1) = true from by decide]
          go_wp2_with fail
          refine (l1In_is _ _ _ _).mono ?_
          rintro e w1 ⟨rfl, rfl⟩
          rw [ks]
          go_wp2
          exact bodyPost_ret (v := .tuple #[.agg #[.int .i64 P, .int .i64 1, .int .i64 (T + 1), .bool true], .bool true]) (by simp [results, Try.results26, go_sem]) rfl ⟨rfl, (by repeat (first | with_reducible exact Below.refl _ _ | with_reducible refine Below.setCell ?_ (by first | omega | (simp; done) | (simp; omega)) _ | with_reducible refine bDrewN ?_ _ | with_reducible refine Below.drew ?_ | with_reducible refine Below.alloc ?_ (by first | omega | (simp; done) | (simp; omega)) _))⟩
set_option maxHeartbeats 8000000 in
theorem specDrive_sm (P T : Int) (F : Bool) (sp : Int) (jam : Bool) (w : World)  (kd : drvB P (-1) T = true) (ks : inB 1 100 sp = true) : Calls Try.prog 26 #[.agg #[.int .i64 P, .int .i64 (-1), .int .i64 T, .bool F], .int .i64 (-1), .int .i64 sp, .bool jam] w fun e w' => e = .returned (.tuple #[.agg #[.int .i64 (aftV P (-1) T F sp jam).1, .int .i64 (aftV P (-1) T F sp jam).2.1, .int .i64 (aftV P (-1) T F sp jam).2.2.1, .bool (aftV P (-1) T F sp jam).2.2.2], .bool true]) ∧ Below w.heap.size w w' := by
  obtain ⟨⟨p0, p1⟩, -, ⟨t0, t1⟩, -⟩ := drv_yes kd
  obtain ⟨s0, s1⟩ := inB_yes ks
  cases jam
  · by_cases hh : P + -sp ≤ 0
    · have e1 : mvV P (-1) sp false = 0 := by unfold mvV; rw [if_neg (by decide)]; omega
      have ea : aftV P (-1) T F sp false = (0, 0, 0, F) := by exact aft_hit (by decide) (by decide) e1
      rw [ea]
      show Calls Try.prog 26 _ w fun e w' => e = .returned (.tuple #[.agg #[.int .i64 0, .int .i64 0, .int .i64 0, .bool F], .bool true]) ∧ Below w.heap.size w w'
      clear e1 ea
      have q1 : (if P + -sp < 100 then P + -sp else 100) = P + -sp := if_pos (by omega)
      have q3 : (if 0 < P + -sp then P + -sp else 0) = 0 := if_neg (by omega)
      have q2 : (if 100 < P + -sp then 100 else P + -sp) = P + -sp := if_neg (by omega)
      go_enter Try.func26, Try.ntmps26
      go_wp2_with fail
      refine (l17Drive_any _ _ _ _ _).mono ?_
      rintro e w1 ⟨rfl, rfl⟩
      rw [kd]
      go_wp2_with fail
      refine (l1In_is _ _ _ _).mono ?_
      rintro e w1 ⟨rfl, rfl⟩
      rw [show inB (-1) 1 ((-1)) = true from by decide]
      go_wp2_with fail
      refine (l1In_is _ _ _ _).mono ?_
      rintro e w1 ⟨rfl, rfl⟩
      rw [ks]
      go_wp2
      exact bodyPost_ret (v := .tuple #[.agg #[.int .i64 0, .int .i64 0, .int .i64 0, .bool F], .bool true]) (by simp [results, Try.results26, go_sem]) rfl ⟨rfl, (by repeat (first | with_reducible exact Below.refl _ _ | with_reducible refine Below.setCell ?_ (by first | omega | (simp; done) | (simp; omega)) _ | with_reducible refine bDrewN ?_ _ | with_reducible refine Below.drew ?_ | with_reducible refine Below.alloc ?_ (by first | omega | (simp; done) | (simp; omega)) _))⟩
    · have e1 : mvV P (-1) sp false = (P + -sp) := by unfold mvV; rw [if_neg (by decide)]; omega
      have e2 : ¬ (P + -sp) = 0 := by omega
      have ea : aftV P (-1) T F sp false = ((P + -sp), (-1), (min (T + 1) 20), (F || decide (min (T + 1) 20 = 20))) := by exact aft_miss (by decide) (by decide) e1 e2 rfl
      rw [ea]
      have q1 : (if (P + -sp) < 100 then (P + -sp) else 100) = (P + -sp) := if_pos (by omega)
      have q3 : (if 0 < (P + -sp) then (P + -sp) else 0) = (P + -sp) := if_pos (by omega)
      have q2 : (if 100 < (P + -sp) then 100 else (P + -sp)) = (P + -sp) := if_neg (by omega)
      have q4 : ((P + -sp) == 0) = false := by simpa using e2
      clear e1 ea e2
      by_cases ht : 19 ≤ T
      · have m1 : (if T + 1 < 20 then T + 1 else 20) = 20 := if_neg (by omega)
        have m2 : (if 20 < T + 1 then 20 else T + 1) = 20 := by split <;> omega
        have m3 : min (T + 1) 20 = 20 := by omega
        rw [m3]
        clear m3
        rw [show decide ((20 : Int) = 20) = true from rfl]
        cases F
        · show Calls Try.prog 26 _ w fun e w' => e = .returned (.tuple #[.agg #[.int .i64 (P + -sp), .int .i64 (-1), .int .i64 20, .bool true], .bool true]) ∧ Below w.heap.size w w'
          go_enter Try.func26, Try.ntmps26
          go_wp2_with fail
          refine (l17Drive_any _ _ _ _ _).mono ?_
          rintro e w1 ⟨rfl, rfl⟩
          rw [kd]
          go_wp2_with fail
          refine (l1In_is _ _ _ _).mono ?_
          rintro e w1 ⟨rfl, rfl⟩
          rw [show inB (-1) 1 ((-1)) = true from by decide]
          go_wp2_with fail
          refine (l1In_is _ _ _ _).mono ?_
          rintro e w1 ⟨rfl, rfl⟩
          rw [ks]
          go_wp2
          exact bodyPost_ret (v := .tuple #[.agg #[.int .i64 (P + -sp), .int .i64 (-1), .int .i64 20, .bool true], .bool true]) (by simp [results, Try.results26, go_sem]) rfl ⟨rfl, (by repeat (first | with_reducible exact Below.refl _ _ | with_reducible refine Below.setCell ?_ (by first | omega | (simp; done) | (simp; omega)) _ | with_reducible refine bDrewN ?_ _ | with_reducible refine Below.drew ?_ | with_reducible refine Below.alloc ?_ (by first | omega | (simp; done) | (simp; omega)) _))⟩
        · show Calls Try.prog 26 _ w fun e w' => e = .returned (.tuple #[.agg #[.int .i64 (P + -sp), .int .i64 (-1), .int .i64 20, .bool true], .bool true]) ∧ Below w.heap.size w w'
          go_enter Try.func26, Try.ntmps26
          go_wp2_with fail
          refine (l17Drive_any _ _ _ _ _).mono ?_
          rintro e w1 ⟨rfl, rfl⟩
          rw [kd]
          go_wp2_with fail
          refine (l1In_is _ _ _ _).mono ?_
          rintro e w1 ⟨rfl, rfl⟩
          rw [show inB (-1) 1 ((-1)) = true from by decide]
          go_wp2_with fail
          refine (l1In_is _ _ _ _).mono ?_
          rintro e w1 ⟨rfl, rfl⟩
          rw [ks]
          go_wp2
          exact bodyPost_ret (v := .tuple #[.agg #[.int .i64 (P + -sp), .int .i64 (-1), .int .i64 20, .bool true], .bool true]) (by simp [results, Try.results26, go_sem]) rfl ⟨rfl, (by repeat (first | with_reducible exact Below.refl _ _ | with_reducible refine Below.setCell ?_ (by first | omega | (simp; done) | (simp; omega)) _ | with_reducible refine bDrewN ?_ _ | with_reducible refine Below.drew ?_ | with_reducible refine Below.alloc ?_ (by first | omega | (simp; done) | (simp; omega)) _))⟩
      · have m1 : (if T + 1 < 20 then T + 1 else 20) = T + 1 := if_pos (by omega)
        have m2 : (if 20 < T + 1 then 20 else T + 1) = T + 1 := if_neg (by omega)
        have m3 : min (T + 1) 20 = T + 1 := by omega
        have m4 : (T + 1 == 20) = false := by simpa using (by omega : ¬ T + 1 = 20)
        have m5 : decide (T + 1 = 20) = false := by simpa using (by omega : ¬ T + 1 = 20)
        rw [m3]
        clear m3
        rw [m5]
        clear m5
        cases F
        · show Calls Try.prog 26 _ w fun e w' => e = .returned (.tuple #[.agg #[.int .i64 (P + -sp), .int .i64 (-1), .int .i64 (T + 1), .bool false], .bool true]) ∧ Below w.heap.size w w'
          go_enter Try.func26, Try.ntmps26
          go_wp2_with fail
          refine (l17Drive_any _ _ _ _ _).mono ?_
          rintro e w1 ⟨rfl, rfl⟩
          rw [kd]
          go_wp2_with fail
          refine (l1In_is _ _ _ _).mono ?_
          rintro e w1 ⟨rfl, rfl⟩
          rw [show inB (-1) 1 ((-1)) = true from by decide]
          go_wp2_with fail
          refine (l1In_is _ _ _ _).mono ?_
          rintro e w1 ⟨rfl, rfl⟩
          rw [ks]
          go_wp2
          exact bodyPost_ret (v := .tuple #[.agg #[.int .i64 (P + -sp), .int .i64 (-1), .int .i64 (T + 1), .bool false], .bool true]) (by simp [results, Try.results26, go_sem]) rfl ⟨rfl, (by repeat (first | with_reducible exact Below.refl _ _ | with_reducible refine Below.setCell ?_ (by first | omega | (simp; done) | (simp; omega)) _ | with_reducible refine bDrewN ?_ _ | with_reducible refine Below.drew ?_ | with_reducible refine Below.alloc ?_ (by first | omega | (simp; done) | (simp; omega)) _))⟩
        · show Calls Try.prog 26 _ w fun e w' => e = .returned (.tuple #[.agg #[.int .i64 (P + -sp), .int .i64 (-1), .int .i64 (T + 1), .bool true], .bool true]) ∧ Below w.heap.size w w'
          go_enter Try.func26, Try.ntmps26
          go_wp2_with fail
          refine (l17Drive_any _ _ _ _ _).mono ?_
          rintro e w1 ⟨rfl, rfl⟩
          rw [kd]
          go_wp2_with fail
          refine (l1In_is _ _ _ _).mono ?_
          rintro e w1 ⟨rfl, rfl⟩
          rw [show inB (-1) 1 ((-1)) = true from by decide]
          go_wp2_with fail
          refine (l1In_is _ _ _ _).mono ?_
          rintro e w1 ⟨rfl, rfl⟩
          rw [ks]
          go_wp2
          exact bodyPost_ret (v := .tuple #[.agg #[.int .i64 (P + -sp), .int .i64 (-1), .int .i64 (T + 1), .bool true], .bool true]) (by simp [results, Try.results26, go_sem]) rfl ⟨rfl, (by repeat (first | with_reducible exact Below.refl _ _ | with_reducible refine Below.setCell ?_ (by first | omega | (simp; done) | (simp; omega)) _ | with_reducible refine bDrewN ?_ _ | with_reducible refine Below.drew ?_ | with_reducible refine Below.alloc ?_ (by first | omega | (simp; done) | (simp; omega)) _))⟩
  · by_cases hh : P = 0
    · subst hh
      have ea : aftV 0 (-1) T F sp true = (0, 0, 0, F) := by exact aft_hit (by decide) (by decide) rfl
      rw [ea]
      show Calls Try.prog 26 _ w fun e w' => e = .returned (.tuple #[.agg #[.int .i64 0, .int .i64 0, .int .i64 0, .bool F], .bool true]) ∧ Below w.heap.size w w'
      clear ea
      go_enter Try.func26, Try.ntmps26
      go_wp2_with fail
      refine (l17Drive_any _ _ _ _ _).mono ?_
      rintro e w1 ⟨rfl, rfl⟩
      rw [kd]
      go_wp2_with fail
      refine (l1In_is _ _ _ _).mono ?_
      rintro e w1 ⟨rfl, rfl⟩
      rw [show inB (-1) 1 ((-1)) = true from by decide]
      go_wp2_with fail
      refine (l1In_is _ _ _ _).mono ?_
      rintro e w1 ⟨rfl, rfl⟩
      rw [ks]
      go_wp2
      exact bodyPost_ret (v := .tuple #[.agg #[.int .i64 0, .int .i64 0, .int .i64 0, .bool F], .bool true]) (by simp [results, Try.results26, go_sem]) rfl ⟨rfl, (by repeat (first | with_reducible exact Below.refl _ _ | with_reducible refine Below.setCell ?_ (by first | omega | (simp; done) | (simp; omega)) _ | with_reducible refine bDrewN ?_ _ | with_reducible refine Below.drew ?_ | with_reducible refine Below.alloc ?_ (by first | omega | (simp; done) | (simp; omega)) _))⟩
    · have e2 : ¬ P = 0 := hh
      have ea : aftV P (-1) T F sp true = (P, (-1), (min (T + 1) 20), (F || decide (min (T + 1) 20 = 20))) := by exact aft_miss (by decide) (by decide) rfl e2 rfl
      rw [ea]
      have q4 : (P == 0) = false := by simpa using e2
      clear ea e2
      by_cases ht : 19 ≤ T
      · have m1 : (if T + 1 < 20 then T + 1 else 20) = 20 := if_neg (by omega)
        have m2 : (if 20 < T + 1 then 20 else T + 1) = 20 := by split <;> omega
        have m3 : min (T + 1) 20 = 20 := by omega
        rw [m3]
        clear m3
        rw [show decide ((20 : Int) = 20) = true from rfl]
        cases F
        · show Calls Try.prog 26 _ w fun e w' => e = .returned (.tuple #[.agg #[.int .i64 P, .int .i64 (-1), .int .i64 20, .bool true], .bool true]) ∧ Below w.heap.size w w'
          go_enter Try.func26, Try.ntmps26
          go_wp2_with fail
          refine (l17Drive_any _ _ _ _ _).mono ?_
          rintro e w1 ⟨rfl, rfl⟩
          rw [kd]
          go_wp2_with fail
          refine (l1In_is _ _ _ _).mono ?_
          rintro e w1 ⟨rfl, rfl⟩
          rw [show inB (-1) 1 ((-1)) = true from by decide]
          go_wp2_with fail
          refine (l1In_is _ _ _ _).mono ?_
          rintro e w1 ⟨rfl, rfl⟩
          rw [ks]
          go_wp2
          exact bodyPost_ret (v := .tuple #[.agg #[.int .i64 P, .int .i64 (-1), .int .i64 20, .bool true], .bool true]) (by simp [results, Try.results26, go_sem]) rfl ⟨rfl, (by repeat (first | with_reducible exact Below.refl _ _ | with_reducible refine Below.setCell ?_ (by first | omega | (simp; done) | (simp; omega)) _ | with_reducible refine bDrewN ?_ _ | with_reducible refine Below.drew ?_ | with_reducible refine Below.alloc ?_ (by first | omega | (simp; done) | (simp; omega)) _))⟩
        · show Calls Try.prog 26 _ w fun e w' => e = .returned (.tuple #[.agg #[.int .i64 P, .int .i64 (-1), .int .i64 20, .bool true], .bool true]) ∧ Below w.heap.size w w'
          go_enter Try.func26, Try.ntmps26
          go_wp2_with fail
          refine (l17Drive_any _ _ _ _ _).mono ?_
          rintro e w1 ⟨rfl, rfl⟩
          rw [kd]
          go_wp2_with fail
          refine (l1In_is _ _ _ _).mono ?_
          rintro e w1 ⟨rfl, rfl⟩
          rw [show inB (-1) 1 ((-1)) = true from by decide]
          go_wp2_with fail
          refine (l1In_is _ _ _ _).mono ?_
          rintro e w1 ⟨rfl, rfl⟩
          rw [ks]
          go_wp2
          exact bodyPost_ret (v := .tuple #[.agg #[.int .i64 P, .int .i64 (-1), .int .i64 20, .bool true], .bool true]) (by simp [results, Try.results26, go_sem]) rfl ⟨rfl, (by repeat (first | with_reducible exact Below.refl _ _ | with_reducible refine Below.setCell ?_ (by first | omega | (simp; done) | (simp; omega)) _ | with_reducible refine bDrewN ?_ _ | with_reducible refine Below.drew ?_ | with_reducible refine Below.alloc ?_ (by first | omega | (simp; done) | (simp; omega)) _))⟩
      · have m1 : (if T + 1 < 20 then T + 1 else 20) = T + 1 := if_pos (by omega)
        have m2 : (if 20 < T + 1 then 20 else T + 1) = T + 1 := if_neg (by omega)
        have m3 : min (T + 1) 20 = T + 1 := by omega
        have m4 : (T + 1 == 20) = false := by simpa using (by omega : ¬ T + 1 = 20)
        have m5 : decide (T + 1 = 20) = false := by simpa using (by omega : ¬ T + 1 = 20)
        rw [m3]
        clear m3
        rw [m5]
        clear m5
        cases F
        · show Calls Try.prog 26 _ w fun e w' => e = .returned (.tuple #[.agg #[.int .i64 P, .int .i64 (-1), .int .i64 (T + 1), .bool false], .bool true]) ∧ Below w.heap.size w w'
          go_enter Try.func26, Try.ntmps26
          go_wp2_with fail
          refine (l17Drive_any _ _ _ _ _).mono ?_
          rintro e w1 ⟨rfl, rfl⟩
          rw [kd]
          go_wp2_with fail
          refine (l1In_is _ _ _ _).mono ?_
          rintro e w1 ⟨rfl, rfl⟩
          rw [show inB (-1) 1 ((-1)) = true from by decide]
          go_wp2_with fail
          refine (l1In_is _ _ _ _).mono ?_
          rintro e w1 ⟨rfl, rfl⟩
          rw [ks]
          go_wp2
          exact bodyPost_ret (v := .tuple #[.agg #[.int .i64 P, .int .i64 (-1), .int .i64 (T + 1), .bool false], .bool true]) (by simp [results, Try.results26, go_sem]) rfl ⟨rfl, (by repeat (first | with_reducible exact Below.refl _ _ | with_reducible refine Below.setCell ?_ (by first | omega | (simp; done) | (simp; omega)) _ | with_reducible refine bDrewN ?_ _ | with_reducible refine Below.drew ?_ | with_reducible refine Below.alloc ?_ (by first | omega | (simp; done) | (simp; omega)) _))⟩
        · show Calls Try.prog 26 _ w fun e w' => e = .returned (.tuple #[.agg #[.int .i64 P, .int .i64 (-1), .int .i64 (T + 1), .bool true], .bool true]) ∧ Below w.heap.size w w'
          go_enter Try.func26, Try.ntmps26
          go_wp2_with fail
          refine (l17Drive_any _ _ _ _ _).mono ?_
          rintro e w1 ⟨rfl, rfl⟩
          rw [kd]
          go_wp2_with fail
          refine (l1In_is _ _ _ _).mono ?_
          rintro e w1 ⟨rfl, rfl⟩
          rw [show inB (-1) 1 ((-1)) = true from by decide]
          go_wp2_with fail
          refine (l1In_is _ _ _ _).mono ?_
          rintro e w1 ⟨rfl, rfl⟩
          rw [ks]
          go_wp2
          exact bodyPost_ret (v := .tuple #[.agg #[.int .i64 P, .int .i64 (-1), .int .i64 (T + 1), .bool true], .bool true]) (by simp [results, Try.results26, go_sem]) rfl ⟨rfl, (by repeat (first | with_reducible exact Below.refl _ _ | with_reducible refine Below.setCell ?_ (by first | omega | (simp; done) | (simp; omega)) _ | with_reducible refine bDrewN ?_ _ | with_reducible refine Below.drew ?_ | with_reducible refine Below.alloc ?_ (by first | omega | (simp; done) | (simp; omega)) _))⟩
end Go.Proofs.Ytafifjodpgmiiaa
