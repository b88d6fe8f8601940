/-
What is proved: what a step makes of a drive, as the program tells it.
-/
import Derived.Test.YtafifjodpgmiiaaDvP
namespace Go.Proofs.Ytafifjodpgmiiaa
set_option maxRecDepth 40000
open Go.ChangeShapes Go.WideShapes Go.ChangeAt Go.RowKit
set_option linter.unusedVariables false
set_option linter.unusedSimpArgs false

set_option maxHeartbeats 4000000 in
theorem implDrive_no (P W T : Int) (F : Bool) (want sp : Int) (jam : Bool) (w : World) (hb : dstB P W T want sp = false) : Calls Try.prog 38 #[.agg #[.int .i64 P, .int .i64 W, .int .i64 T, .bool F], .int .i64 want, .int .i64 sp, .bool jam] w fun e w' => e = .returned (.tuple #[.agg #[.int .i64 0, .int .i64 0, .int .i64 0, .bool false], .bool false]) ∧ Below w.heap.size w w' := by
  unfold dstB at hb
  go_enter Try.func38, Try.ntmps38
  go_wp2_with fail
  refine (drvRight_any _ _ _ _ _).mono ?_
  rintro e w1 ⟨rfl, rfl⟩
  cases h0 : drvB P W T
  · go_wp2
    exact bodyPost_ret (v := .tuple #[.agg #[.int .i64 0, .int .i64 0, .int .i64 0, .bool false], .bool false]) (by simp [results, Try.results38, go_sem]) rfl ⟨rfl, (by repeat (first | with_reducible exact Below.refl _ _ | with_reducible refine Below.setCell ?_ (by first | omega | (simp; done) | (simp; omega)) _ | with_reducible refine bDrewN ?_ _ | with_reducible refine Below.drew ?_ | with_reducible refine Below.alloc ?_ (by first | omega | (simp; done) | (simp; omega)) _))⟩
  rw [h0, Bool.true_and] at hb
  go_wp2_with fail
  refine (within_is _ _ _ _).mono ?_
  rintro e w1 ⟨rfl, rfl⟩
  cases h1 : inB (-1) 1 want
  · go_wp2
    exact bodyPost_ret (v := .tuple #[.agg #[.int .i64 0, .int .i64 0, .int .i64 0, .bool false], .bool false]) (by simp [results, Try.results38, go_sem]) rfl ⟨rfl, (by repeat (first | with_reducible exact Below.refl _ _ | with_reducible refine Below.setCell ?_ (by first | omega | (simp; done) | (simp; omega)) _ | with_reducible refine bDrewN ?_ _ | with_reducible refine Below.drew ?_ | with_reducible refine Below.alloc ?_ (by first | omega | (simp; done) | (simp; omega)) _))⟩
  rw [h1, Bool.true_and] at hb
  go_wp2_with fail
  refine (within_is _ _ _ _).mono ?_
  rintro e w1 ⟨rfl, rfl⟩
  rw [hb]
  go_wp2
  exact bodyPost_ret (v := .tuple #[.agg #[.int .i64 0, .int .i64 0, .int .i64 0, .bool false], .bool false]) (by simp [results, Try.results38, go_sem]) rfl ⟨rfl, (by repeat (first | with_reducible exact Below.refl _ _ | with_reducible refine Below.setCell ?_ (by first | omega | (simp; done) | (simp; omega)) _ | with_reducible refine bDrewN ?_ _ | with_reducible refine Below.drew ?_ | with_reducible refine Below.alloc ?_ (by first | omega | (simp; done) | (simp; omega)) _))⟩
set_option maxHeartbeats 8000000 in
theorem implDrive_yes (P W T : Int) (F : Bool) (want sp : Int) (jam : Bool) (w : World) (W1 T1 : Int) (F1 : Bool) (hW : (if want ≠ 0 ∧ want ≠ W then want else W) = W1) (hT : (if want ≠ 0 ∧ want ≠ W then 0 else T) = T1) (hF : (if want ≠ 0 ∧ want ≠ W then false else F) = F1) (kd : drvB P W T = true) (kw : inB (-1) 1 want = true) (ks : inB 1 100 sp = true) (v0 v1 v2 : Int) (v3 : Bool) (ha : aftV P W1 T1 F1 sp jam = (v0, v1, v2, v3)) :
    Calls Try.prog 38 #[.agg #[.int .i64 P, .int .i64 W, .int .i64 T, .bool F], .int .i64 want, .int .i64 sp, .bool jam] w fun e w' => e = .returned (.tuple #[.agg #[.int .i64 v0, .int .i64 v1, .int .i64 v2, .bool v3], .bool true]) ∧ Below w.heap.size w w' := by
  have TK : Hid (∀ p w, DrvAt w p P W T F → Calls Try.prog 49 #[.pointer (some ⟨p, 0, none⟩), .int .i64 want] w fun e w' => e = .returned (.tuple #[]) ∧ DrvAt w' p P W1 T1 F1 ∧ Beside p w w') := fun p w h => by have := dtake_any p P W T F want w h; rw [hW, hT, hF] at this; exact this
  obtain ⟨⟨p0, p1⟩, ⟨wa, wb⟩, ⟨t0, t1⟩, -⟩ := drv_yes kd
  obtain ⟨m0, m1⟩ := inB_yes ks
  obtain ⟨u0, u1⟩ := inB_yes kw
  have q0 : 0 ≤ T1 := by rw [← hT]; split <;> omega
  have q1 : T1 ≤ 20 := by rw [← hT]; split <;> omega
  have q2 : W1 = 1 ∨ W1 = -1 ∨ W1 = 0 := by rw [← hW]; split <;> omega
  have HA : Hid (aftV P W1 T1 F1 sp jam = (v0, v1, v2, v3)) := ha
  clear hW hT hF ha
  go_enter Try.func38, Try.ntmps38
  go_upto_region 1 with fail
  obtain ⟨wd, hwd⟩ : ∃ wd, wd = ((w.alloc (.cells #[.int .i64 P, .int .i64 W, .int .i64 T, .bool F] 40)).alloc (.cells #[.int .i64 0, .int .i64 0, .int .i64 0, .bool false] 40)) := ⟨_, rfl⟩
  rw [← hwd]
  have fz : ∀ o, wd.frozen? ⟨w.heap.size, o, none⟩ = false := fun o => by rw [hwd]; simp [go_sem]
  have c0 : wd.cell? ⟨w.heap.size, 0, none⟩ = some (.int .i64 P) := by rw [hwd]; simp [go_sem]
  have f0 : wd.frozen? ⟨w.heap.size, 0, none⟩ = false := by rw [hwd]; simp [go_sem]
  have c1 : wd.cell? ⟨w.heap.size, 1, none⟩ = some (.int .i64 W) := by rw [hwd]; simp [go_sem]
  have f1 : wd.frozen? ⟨w.heap.size, 1, none⟩ = false := by rw [hwd]; simp [go_sem]
  have c2 : wd.cell? ⟨w.heap.size, 2, none⟩ = some (.int .i64 T) := by rw [hwd]; simp [go_sem]
  have f2 : wd.frozen? ⟨w.heap.size, 2, none⟩ = false := by rw [hwd]; simp [go_sem]
  have c3 : wd.cell? ⟨w.heap.size, 3, none⟩ = some (.bool F) := by rw [hwd]; simp [go_sem]
  have f3 : wd.frozen? ⟨w.heap.size, 3, none⟩ = false := by rw [hwd]; simp [go_sem]
  have c4 : wd.cell? ⟨w.heap.size + 1, 0, none⟩ = some (.int .i64 0) := by rw [hwd]; simp [go_sem]
  have f4 : wd.frozen? ⟨w.heap.size + 1, 0, none⟩ = false := by rw [hwd]; simp [go_sem]
  have c5 : wd.cell? ⟨w.heap.size + 1, 1, none⟩ = some (.int .i64 0) := by rw [hwd]; simp [go_sem]
  have f5 : wd.frozen? ⟨w.heap.size + 1, 1, none⟩ = false := by rw [hwd]; simp [go_sem]
  have c6 : wd.cell? ⟨w.heap.size + 1, 2, none⟩ = some (.int .i64 0) := by rw [hwd]; simp [go_sem]
  have f6 : wd.frozen? ⟨w.heap.size + 1, 2, none⟩ = false := by rw [hwd]; simp [go_sem]
  have c7 : wd.cell? ⟨w.heap.size + 1, 3, none⟩ = some (.bool false) := by rw [hwd]; simp [go_sem]
  have f7 : wd.frozen? ⟨w.heap.size + 1, 3, none⟩ = false := by rw [hwd]; simp [go_sem]
  have z0 : w.heap.size < wd.heap.size := by rw [hwd]; (first | (simp; done) | (simp; omega))
  have z1 : w.heap.size + 1 < wd.heap.size := by rw [hwd]; (first | (simp; done) | (simp; omega))
  have B0 : Below w.heap.size w wd := by rw [hwd]; exact (by repeat (first | with_reducible exact Below.refl _ _ | with_reducible refine Below.setCell ?_ (by first | omega | (simp; done) | (simp; omega)) _ | with_reducible refine bDrewN ?_ _ | with_reducible refine Below.drew ?_ | with_reducible refine Below.alloc ?_ (by first | omega | (simp; done) | (simp; omega)) _))
  have s0 := B0.size
  clear hwd
  go_wp2_with fail
  refine (drvRight_any P W T F _).mono ?_
  rintro e w1 ⟨rfl, hw1⟩
  have h1 : Below wd.heap.size wd w1 := by rw [hw1]; exact (by repeat (first | with_reducible exact Below.refl _ _ | with_reducible refine Below.setCell ?_ (by first | omega | (simp; done) | (simp; omega)) _ | with_reducible refine bDrewN ?_ _ | with_reducible refine Below.drew ?_ | with_reducible refine Below.alloc ?_ (by first | omega | (simp; done) | (simp; omega)) _))
  clear hw1
  replace fz : ∀ o, w1.frozen? ⟨w.heap.size, o, none⟩ = false := fun o => (h1.frozen (p := ⟨w.heap.size, o, none⟩) z0).trans (fz o)
  replace c0 := (h1.cell (p := ⟨w.heap.size, 0, none⟩) z0).trans c0
  replace f0 := (h1.frozen (p := ⟨w.heap.size, 0, none⟩) z0).trans f0
  replace c1 := (h1.cell (p := ⟨w.heap.size, 1, none⟩) z0).trans c1
  replace f1 := (h1.frozen (p := ⟨w.heap.size, 1, none⟩) z0).trans f1
  replace c2 := (h1.cell (p := ⟨w.heap.size, 2, none⟩) z0).trans c2
  replace f2 := (h1.frozen (p := ⟨w.heap.size, 2, none⟩) z0).trans f2
  replace c3 := (h1.cell (p := ⟨w.heap.size, 3, none⟩) z0).trans c3
  replace f3 := (h1.frozen (p := ⟨w.heap.size, 3, none⟩) z0).trans f3
  replace c4 := (h1.cell (p := ⟨w.heap.size + 1, 0, none⟩) z1).trans c4
  replace f4 := (h1.frozen (p := ⟨w.heap.size + 1, 0, none⟩) z1).trans f4
  replace c5 := (h1.cell (p := ⟨w.heap.size + 1, 1, none⟩) z1).trans c5
  replace f5 := (h1.frozen (p := ⟨w.heap.size + 1, 1, none⟩) z1).trans f5
  replace c6 := (h1.cell (p := ⟨w.heap.size + 1, 2, none⟩) z1).trans c6
  replace f6 := (h1.frozen (p := ⟨w.heap.size + 1, 2, none⟩) z1).trans f6
  replace c7 := (h1.cell (p := ⟨w.heap.size + 1, 3, none⟩) z1).trans c7
  replace f7 := (h1.frozen (p := ⟨w.heap.size + 1, 3, none⟩) z1).trans f7
  replace z0 := Nat.lt_of_lt_of_le z0 h1.size
  replace z1 := Nat.lt_of_lt_of_le z1 h1.size
  replace B0 : Below w.heap.size w w1 := B0.trans (h1.mono s0)
  replace s0 := B0.size
  clear h1
  rw [kd]
  go_wp2_with fail
  refine (within_is want (-1) 1 _).mono ?_
  rintro e w2 ⟨rfl, rfl⟩
  rw [kw]
  go_wp2_with fail
  refine (within_is sp 1 100 _).mono ?_
  rintro e w2 ⟨rfl, rfl⟩
  rw [ks]
  clear kd kw ks
  have D2 : Hid (DrvAt w2 w.heap.size P W T F) := ⟨z0, fz, c0, c1, c2, c3⟩
  clear fz
  go_wp2_with fail
  refine (TK.out _ _ D2.out).mono ?_
  rintro e w3 ⟨rfl, hd3, S3⟩
  have D3 : Hid (DrvAt w3 w.heap.size P W1 T1 F1) := hd3
  clear D2 TK hd3 f0 f1 f2 f3 c0 c1 c2 c3 z0 wa wb u0 u1
  replace c4 := (S3.cell (p := ⟨w.heap.size + 1, 0, none⟩) z1 (by simp)).trans c4
  replace f4 := (S3.frozen (p := ⟨w.heap.size + 1, 0, none⟩) z1 (by simp)).trans f4
  replace c5 := (S3.cell (p := ⟨w.heap.size + 1, 1, none⟩) z1 (by simp)).trans c5
  replace f5 := (S3.frozen (p := ⟨w.heap.size + 1, 1, none⟩) z1 (by simp)).trans f5
  replace c6 := (S3.cell (p := ⟨w.heap.size + 1, 2, none⟩) z1 (by simp)).trans c6
  replace f6 := (S3.frozen (p := ⟨w.heap.size + 1, 2, none⟩) z1 (by simp)).trans f6
  replace c7 := (S3.cell (p := ⟨w.heap.size + 1, 3, none⟩) z1 (by simp)).trans c7
  replace f7 := (S3.frozen (p := ⟨w.heap.size + 1, 3, none⟩) z1 (by simp)).trans f7
  replace z1 : w.heap.size + 1 < w3.heap.size := Nat.lt_of_lt_of_le z1 S3.2.2.2.1
  replace B0 : Below w.heap.size w w3 := Below.trans B0 (S3.below (Nat.le_refl _) s0)
  replace s0 := B0.size
  clear S3
  rcases q2 with rfl | rfl | rfl
  · cases jam
    · have HW : Hid (wtV (mvV P 1 sp false) 1 T1 F1 = (v0, v1, v2, v3)) := HA.out
      clear HA
      obtain ⟨hp, hf, c0, c1, c2, c3⟩ := D3.out
      go_wp2_with fail
      refine (dmove1 _ P T1 F1 sp _ D3.out p0 p1 m0 m1).mono ?_
      rintro e w4 ⟨rfl, hd4, S4⟩
      have D4 : Hid (DrvAt w4 w.heap.size (mvV P 1 sp false) 1 T1 F1) := hd4
      clear D3 hd4 hp hf c0 c1 c2 c3
      replace c4 := (S4.cell (p := ⟨w.heap.size + 1, 0, none⟩) z1 (by simp)).trans c4
      replace f4 := (S4.frozen (p := ⟨w.heap.size + 1, 0, none⟩) z1 (by simp)).trans f4
      replace c5 := (S4.cell (p := ⟨w.heap.size + 1, 1, none⟩) z1 (by simp)).trans c5
      replace f5 := (S4.frozen (p := ⟨w.heap.size + 1, 1, none⟩) z1 (by simp)).trans f5
      replace c6 := (S4.cell (p := ⟨w.heap.size + 1, 2, none⟩) z1 (by simp)).trans c6
      replace f6 := (S4.frozen (p := ⟨w.heap.size + 1, 2, none⟩) z1 (by simp)).trans f6
      replace c7 := (S4.cell (p := ⟨w.heap.size + 1, 3, none⟩) z1 (by simp)).trans c7
      replace f7 := (S4.frozen (p := ⟨w.heap.size + 1, 3, none⟩) z1 (by simp)).trans f7
      replace z1 : w.heap.size + 1 < w4.heap.size := Nat.lt_of_lt_of_le z1 S4.2.2.2.1
      replace B0 : Below w.heap.size w w4 := Below.trans B0 (S4.below (Nat.le_refl _) s0)
      replace s0 := B0.size
      clear S4
      obtain ⟨qq, hqq⟩ : ∃ qq, (mvV P 1 sp false) = qq := ⟨_, rfl⟩
      rw [hqq] at D4 HW
      clear hqq
      go_wp2_with fail
      refine (dwatch_any _ qq 1 T1 F1 _ D4.out q0 q1).mono ?_
      rw [HW.out]
      rintro e w5 ⟨rfl, hd5, S5⟩
      replace hd5 : DrvAt w5 w.heap.size v0 v1 v2 v3 := hd5
      clear D4 
      replace c4 := (S5.cell (p := ⟨w.heap.size + 1, 0, none⟩) z1 (by simp)).trans c4
      replace f4 := (S5.frozen (p := ⟨w.heap.size + 1, 0, none⟩) z1 (by simp)).trans f4
      replace c5 := (S5.cell (p := ⟨w.heap.size + 1, 1, none⟩) z1 (by simp)).trans c5
      replace f5 := (S5.frozen (p := ⟨w.heap.size + 1, 1, none⟩) z1 (by simp)).trans f5
      replace c6 := (S5.cell (p := ⟨w.heap.size + 1, 2, none⟩) z1 (by simp)).trans c6
      replace f6 := (S5.frozen (p := ⟨w.heap.size + 1, 2, none⟩) z1 (by simp)).trans f6
      replace c7 := (S5.cell (p := ⟨w.heap.size + 1, 3, none⟩) z1 (by simp)).trans c7
      replace f7 := (S5.frozen (p := ⟨w.heap.size + 1, 3, none⟩) z1 (by simp)).trans f7
      replace z1 : w.heap.size + 1 < w5.heap.size := Nat.lt_of_lt_of_le z1 S5.2.2.2.1
      replace B0 : Below w.heap.size w w5 := Below.trans B0 (S5.below (Nat.le_refl _) s0)
      replace s0 := B0.size
      clear S5
      obtain ⟨hp, hf, c0, c1, c2, c3⟩ := hd5
      go_wp2
      exact bodyPost_ret (v := .tuple #[.agg #[.int .i64 v0, .int .i64 v1, .int .i64 v2, .bool v3], .bool true]) (by simp [results, Try.results38, go_sem, c4, c5, c6, c7]) rfl ⟨rfl, (by repeat (first | with_reducible exact Below.refl _ _ | with_reducible exact B0 | with_reducible refine Below.setCell ?_ (by first | omega | (simp; done) | (simp; omega)) _ | with_reducible refine bDrewN ?_ _ | with_reducible refine Below.drew ?_ | with_reducible refine Below.alloc ?_ (by first | omega | (simp; done) | (simp; omega)) _))⟩
    · have HW : Hid (wtV (mvV P 1 sp true) 1 T1 F1 = (v0, v1, v2, v3)) := HA.out
      clear HA
      obtain ⟨hp, hf, c0, c1, c2, c3⟩ := D3.out
      have D4 : Hid (DrvAt w3 w.heap.size (mvV P 1 sp true) 1 T1 F1) := D3.out
      clear D3
      obtain ⟨qq, hqq⟩ : ∃ qq, (mvV P 1 sp true) = qq := ⟨_, rfl⟩
      rw [hqq] at D4 HW
      clear hqq
      go_wp2_with fail
      refine (dwatch_any _ qq 1 T1 F1 _ D4.out q0 q1).mono ?_
      rw [HW.out]
      rintro e w5 ⟨rfl, hd5, S5⟩
      replace hd5 : DrvAt w5 w.heap.size v0 v1 v2 v3 := hd5
      clear D4 hp hf c0 c1 c2 c3
      replace c4 := (S5.cell (p := ⟨w.heap.size + 1, 0, none⟩) z1 (by simp)).trans c4
      replace f4 := (S5.frozen (p := ⟨w.heap.size + 1, 0, none⟩) z1 (by simp)).trans f4
      replace c5 := (S5.cell (p := ⟨w.heap.size + 1, 1, none⟩) z1 (by simp)).trans c5
      replace f5 := (S5.frozen (p := ⟨w.heap.size + 1, 1, none⟩) z1 (by simp)).trans f5
      replace c6 := (S5.cell (p := ⟨w.heap.size + 1, 2, none⟩) z1 (by simp)).trans c6
      replace f6 := (S5.frozen (p := ⟨w.heap.size + 1, 2, none⟩) z1 (by simp)).trans f6
      replace c7 := (S5.cell (p := ⟨w.heap.size + 1, 3, none⟩) z1 (by simp)).trans c7
      replace f7 := (S5.frozen (p := ⟨w.heap.size + 1, 3, none⟩) z1 (by simp)).trans f7
      replace z1 : w.heap.size + 1 < w5.heap.size := Nat.lt_of_lt_of_le z1 S5.2.2.2.1
      replace B0 : Below w.heap.size w w5 := Below.trans B0 (S5.below (Nat.le_refl _) s0)
      replace s0 := B0.size
      clear S5
      obtain ⟨hp, hf, c0, c1, c2, c3⟩ := hd5
      go_wp2
      exact bodyPost_ret (v := .tuple #[.agg #[.int .i64 v0, .int .i64 v1, .int .i64 v2, .bool v3], .bool true]) (by simp [results, Try.results38, go_sem, c4, c5, c6, c7]) rfl ⟨rfl, (by repeat (first | with_reducible exact Below.refl _ _ | with_reducible exact B0 | with_reducible refine Below.setCell ?_ (by first | omega | (simp; done) | (simp; omega)) _ | with_reducible refine bDrewN ?_ _ | with_reducible refine Below.drew ?_ | with_reducible refine Below.alloc ?_ (by first | omega | (simp; done) | (simp; omega)) _))⟩
  · cases jam
    · have HW : Hid (wtV (mvV P (-1) sp false) (-1) T1 F1 = (v0, v1, v2, v3)) := HA.out
      clear HA
      obtain ⟨hp, hf, c0, c1, c2, c3⟩ := D3.out
      go_wp2_with fail
      refine (dmovem _ P T1 F1 sp _ D3.out p0 p1 m0 m1).mono ?_
      rintro e w4 ⟨rfl, hd4, S4⟩
      have D4 : Hid (DrvAt w4 w.heap.size (mvV P (-1) sp false) (-1) T1 F1) := hd4
      clear D3 hd4 hp hf c0 c1 c2 c3
      replace c4 := (S4.cell (p := ⟨w.heap.size + 1, 0, none⟩) z1 (by simp)).trans c4
      replace f4 := (S4.frozen (p := ⟨w.heap.size + 1, 0, none⟩) z1 (by simp)).trans f4
      replace c5 := (S4.cell (p := ⟨w.heap.size + 1, 1, none⟩) z1 (by simp)).trans c5
      replace f5 := (S4.frozen (p := ⟨w.heap.size + 1, 1, none⟩) z1 (by simp)).trans f5
      replace c6 := (S4.cell (p := ⟨w.heap.size + 1, 2, none⟩) z1 (by simp)).trans c6
      replace f6 := (S4.frozen (p := ⟨w.heap.size + 1, 2, none⟩) z1 (by simp)).trans f6
      replace c7 := (S4.cell (p := ⟨w.heap.size + 1, 3, none⟩) z1 (by simp)).trans c7
      replace f7 := (S4.frozen (p := ⟨w.heap.size + 1, 3, none⟩) z1 (by simp)).trans f7
      replace z1 : w.heap.size + 1 < w4.heap.size := Nat.lt_of_lt_of_le z1 S4.2.2.2.1
      replace B0 : Below w.heap.size w w4 := Below.trans B0 (S4.below (Nat.le_refl _) s0)
      replace s0 := B0.size
      clear S4
      obtain ⟨qq, hqq⟩ : ∃ qq, (mvV P (-1) sp false) = qq := ⟨_, rfl⟩
      rw [hqq] at D4 HW
      clear hqq
      go_wp2_with fail
      refine (dwatch_any _ qq (-1) T1 F1 _ D4.out q0 q1).mono ?_
      rw [HW.out]
      rintro e w5 ⟨rfl, hd5, S5⟩
      replace hd5 : DrvAt w5 w.heap.size v0 v1 v2 v3 := hd5
      clear D4 
      replace c4 := (S5.cell (p := ⟨w.heap.size + 1, 0, none⟩) z1 (by simp)).trans c4
      replace f4 := (S5.frozen (p := ⟨w.heap.size + 1, 0, none⟩) z1 (by simp)).trans f4
      replace c5 := (S5.cell (p := ⟨w.heap.size + 1, 1, none⟩) z1 (by simp)).trans c5
      replace f5 := (S5.frozen (p := ⟨w.heap.size + 1, 1, none⟩) z1 (by simp)).trans f5
      replace c6 := (S5.cell (p := ⟨w.heap.size + 1, 2, none⟩) z1 (by simp)).trans c6
      replace f6 := (S5.frozen (p := ⟨w.heap.size + 1, 2, none⟩) z1 (by simp)).trans f6
      replace c7 := (S5.cell (p := ⟨w.heap.size + 1, 3, none⟩) z1 (by simp)).trans c7
      replace f7 := (S5.frozen (p := ⟨w.heap.size + 1, 3, none⟩) z1 (by simp)).trans f7
      replace z1 : w.heap.size + 1 < w5.heap.size := Nat.lt_of_lt_of_le z1 S5.2.2.2.1
      replace B0 : Below w.heap.size w w5 := Below.trans B0 (S5.below (Nat.le_refl _) s0)
      replace s0 := B0.size
      clear S5
      obtain ⟨hp, hf, c0, c1, c2, c3⟩ := hd5
      go_wp2
      exact bodyPost_ret (v := .tuple #[.agg #[.int .i64 v0, .int .i64 v1, .int .i64 v2, .bool v3], .bool true]) (by simp [results, Try.results38, go_sem, c4, c5, c6, c7]) rfl ⟨rfl, (by repeat (first | with_reducible exact Below.refl _ _ | with_reducible exact B0 | with_reducible refine Below.setCell ?_ (by first | omega | (simp; done) | (simp; omega)) _ | with_reducible refine bDrewN ?_ _ | with_reducible refine Below.drew ?_ | with_reducible refine Below.alloc ?_ (by first | omega | (simp; done) | (simp; omega)) _))⟩
    · have HW : Hid (wtV (mvV P (-1) sp true) (-1) T1 F1 = (v0, v1, v2, v3)) := HA.out
      clear HA
      obtain ⟨hp, hf, c0, c1, c2, c3⟩ := D3.out
      have D4 : Hid (DrvAt w3 w.heap.size (mvV P (-1) sp true) (-1) T1 F1) := D3.out
      clear D3
      obtain ⟨qq, hqq⟩ : ∃ qq, (mvV P (-1) sp true) = qq := ⟨_, rfl⟩
      rw [hqq] at D4 HW
      clear hqq
      go_wp2_with fail
      refine (dwatch_any _ qq (-1) T1 F1 _ D4.out q0 q1).mono ?_
      rw [HW.out]
      rintro e w5 ⟨rfl, hd5, S5⟩
      replace hd5 : DrvAt w5 w.heap.size v0 v1 v2 v3 := hd5
      clear D4 hp hf c0 c1 c2 c3
      replace c4 := (S5.cell (p := ⟨w.heap.size + 1, 0, none⟩) z1 (by simp)).trans c4
      replace f4 := (S5.frozen (p := ⟨w.heap.size + 1, 0, none⟩) z1 (by simp)).trans f4
      replace c5 := (S5.cell (p := ⟨w.heap.size + 1, 1, none⟩) z1 (by simp)).trans c5
      replace f5 := (S5.frozen (p := ⟨w.heap.size + 1, 1, none⟩) z1 (by simp)).trans f5
      replace c6 := (S5.cell (p := ⟨w.heap.size + 1, 2, none⟩) z1 (by simp)).trans c6
      replace f6 := (S5.frozen (p := ⟨w.heap.size + 1, 2, none⟩) z1 (by simp)).trans f6
      replace c7 := (S5.cell (p := ⟨w.heap.size + 1, 3, none⟩) z1 (by simp)).trans c7
      replace f7 := (S5.frozen (p := ⟨w.heap.size + 1, 3, none⟩) z1 (by simp)).trans f7
      replace z1 : w.heap.size + 1 < w5.heap.size := Nat.lt_of_lt_of_le z1 S5.2.2.2.1
      replace B0 : Below w.heap.size w w5 := Below.trans B0 (S5.below (Nat.le_refl _) s0)
      replace s0 := B0.size
      clear S5
      obtain ⟨hp, hf, c0, c1, c2, c3⟩ := hd5
      go_wp2
      exact bodyPost_ret (v := .tuple #[.agg #[.int .i64 v0, .int .i64 v1, .int .i64 v2, .bool v3], .bool true]) (by simp [results, Try.results38, go_sem, c4, c5, c6, c7]) rfl ⟨rfl, (by repeat (first | with_reducible exact Below.refl _ _ | with_reducible exact B0 | with_reducible refine Below.setCell ?_ (by first | omega | (simp; done) | (simp; omega)) _ | with_reducible refine bDrewN ?_ _ | with_reducible refine Below.drew ?_ | with_reducible refine Below.alloc ?_ (by first | omega | (simp; done) | (simp; omega)) _))⟩
  · have HW : ((P, 0, T1, F1) : Int × Int × Int × Bool) = (v0, v1, v2, v3) := HA.out
    injection HW with e0 e1
    injection e1 with e1 e2
    injection e2 with e2 e3
    subst e0 e1 e2 e3
    clear HA
    obtain ⟨hp, hf, c0, c1, c2, c3⟩ := D3.out
    go_wp2
    exact bodyPost_ret (v := .tuple #[.agg #[.int .i64 P, .int .i64 0, .int .i64 T1, .bool F1], .bool true]) (by simp [results, Try.results38, go_sem, c4, c5, c6, c7]) rfl ⟨rfl, (by repeat (first | with_reducible exact Below.refl _ _ | with_reducible exact B0 | with_reducible refine Below.setCell ?_ (by first | omega | (simp; done) | (simp; omega)) _ | with_reducible refine bDrewN ?_ _ | with_reducible refine Below.drew ?_ | with_reducible refine Below.alloc ?_ (by first | omega | (simp; done) | (simp; omega)) _))⟩
theorem implDrive_any (P W T : Int) (F : Bool) (want sp : Int) (jam : Bool) (w : World) : Calls Try.prog 38 #[.agg #[.int .i64 P, .int .i64 W, .int .i64 T, .bool F], .int .i64 want, .int .i64 sp, .bool jam] w fun e w' => e = .returned (.tuple #[.agg #[.int .i64 (drvV P W T F want sp jam).1, .int .i64 (drvV P W T F want sp jam).2.1, .int .i64 (drvV P W T F want sp jam).2.2.1, .bool (drvV P W T F want sp jam).2.2.2], .bool (dstB P W T want sp)]) ∧ Below w.heap.size w w' := by
  unfold drvV
  cases hb : dstB P W T want sp
  · exact implDrive_no P W T F want sp jam w hb
  obtain ⟨kd, kw, ks⟩ := dst_yes hb
  rw [if_pos rfl]
  by_cases hw : want ≠ 0 ∧ want ≠ W
  · rw [if_pos hw]
    exact implDrive_yes P W T F want sp jam w _ _ _ (if_pos hw) (if_pos hw) (if_pos hw) kd kw ks _ _ _ _ rfl
  · rw [if_neg hw]
    exact implDrive_yes P W T F want sp jam w _ _ _ (if_neg hw) (if_neg hw) (if_neg hw) kd kw ks _ _ _ _ rfl
end Go.Proofs.Ytafifjodpgmiiaa
