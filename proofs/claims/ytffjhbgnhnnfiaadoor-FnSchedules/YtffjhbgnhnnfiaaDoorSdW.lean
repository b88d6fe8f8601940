/-
What is proved: what begins at a tick, and the next end, as impl's roster says it.
-/
import Derived.Test.YtffjhbgnhnnfiaaDoorSd
import Derived.Test.YtffjhbgnhnnfiaaDoorScR
import Derived.Test.YtffjhbgnhnnfiaaDoorCrI
import Derived.Deep.RegionHeld3
import Derived.Deep.DeepCutAuto
import Derived.BigQuiet
namespace Go.Proofs.YtffjhbgnhnnfiaaDoor
set_option maxRecDepth 40000
open Go.ChangeShapes Go.WideShapes Go.ChangeAt Go.RowKit
set_option linter.unusedVariables false
set_option linter.unusedSimpArgs false

theorem BegAt.turn {w w' : World} {b n : Nat} {B : Nat → Int} (h : BegAt w b n B) (hb : Below w.heap.size w w') : BegAt w' b n B := h.below hb
set_option maxRecDepth 20000 in
set_option maxHeartbeats 8000000 in
theorem beginAt_any (s : Option Addr) (b : Nat) (n c : Nat) (X : Nat → Int) (K : Nat → Nat) (V : Nat → Nat → Int) (cr now : Int) (I : Nat → Int) (w0 w : World) (hn : n ≤ 40) (hb0 : w0.heap.size ≤ b) (HW : Hid (Below w0.heap.size w0 w)) (HK : Hid (∀ i, i < n → (K i : Int) ≤ 1048576)) (HV : Hid (∀ j, j < n → ∀ i, i < K j → 0 ≤ V j i ∧ V j i < (j : Int)))
    (HR : Hid (RowJbs w0 s n X K V)) (HG : Hid (GoodI n X I now)) (HT : Hid (BegAt w b n I)) :
    Calls Tryd.prog 38 #[.agg #[.slice s n c, .slice (some ⟨b, 0, none⟩) n n], .int .i64 now, .int .i64 cr] w fun e w' => e = .returned (.tuple #[]) ∧ BegAt w' b n (pasF n X K V cr now I n) ∧ Turn (fun k => k = b) w w' := by
  have nbv : nob = 1000000000 := rfl
  have tn := HG.out.1
  have n5 : (n : Int) ≤ 40 := by omega
  have HGG : Hid (∀ k j, j < n → (1 ≤ X j ∧ X j ≤ 1000) ∧ 0 ≤ pasF n X K V cr now I k j ∧ pasF n X K V cr now I k j ≤ 1000000000) := fun k j hj => ⟨(HG.out.2 j hj).1, by
    rcases pas_or n X K V cr now I k j with e | ⟨e1, e2⟩
    · rw [e]; rcases (HG.out.2 j hj).2 with q | q <;> omega
    · rw [e2]; omega⟩
  have HVV : Hid (∀ j, j < n → ∀ i, i < K j → 0 ≤ V j i ∧ V j i < (n : Int)) := fun j hj i hi => by have := HV.out j hj i hi; omega
  have hbw := HT.out.1
  go_enter Tryd.func38, Tryd.ntmps38
  go_upto_region 1 with fail
  obtain ⟨wa, hwa⟩ : ∃ wa, wa = w.alloc (.cells #[.slice s n c, .slice (some ⟨b, 0, none⟩) n n] 57) := ⟨_, rfl⟩
  rw [← hwa]
  have hb : Below w.heap.size w wa := by rw [hwa]; exact below0 _ _
  have a0 : wa.cell? ⟨w.heap.size, 0, none⟩ = some (.slice s n c) := by rw [hwa]; simp [go_sem]
  have a1 : wa.cell? ⟨w.heap.size, 1, none⟩ = some (.slice (some ⟨b, 0, none⟩) n n) := by rw [hwa]; simp [go_sem]
  have za : w.heap.size < wa.heap.size := by rw [hwa]; simp
  have HTA : Hid (BegAt wa b n (pasF n X K V cr now I 0)) := HT.out.below hb
  have HU : Hid (Turn (fun k => k = b) w wa) := Turn.grown hb
  clear hwa hb
  go_wp2_with fail
  go_loopw [10] (fun i wr => ∃ k : Nat, k ≤ n ∧ i = .int .i64 (k : Int) ∧ Hid (BegAt wr b n (pasF n X K V cr now I k)) ∧ wr.cell? ⟨w.heap.size, 0, none⟩ = some (.slice s n c) ∧ wr.cell? ⟨w.heap.size, 1, none⟩ = some (.slice (some ⟨b, 0, none⟩) n n) ∧ w.heap.size < wr.heap.size ∧ Hid (Turn (fun k => k = b) w wr)) (fun i _ => n - (intOf i).toNat)
  case atStart => exact ⟨0, Nat.zero_le _, rfl, HTA, a0, a1, za, HU⟩
  case round =>
    obtain ⟨k, hk, rfl, HTk, q0, q1, zr, HUk⟩ := hrel
    by_cases h1 : k < n
    · have k1 : (k : Int) < (n : Int) := by omega
      have zb : b < wr.heap.size := HTk.out.1
      have HB0 : Hid (Below w0.heap.size w0 wr) := HW.out.trans (HUk.out.below (fun k hk => by subst hk; exact hb0) HW.out.size)
      have HCR : Hid (∀ w1, Below wr.heap.size wr w1 → Calls Tryd.prog 32 #[.agg #[.slice s n c, .slice (some ⟨b, 0, none⟩) n n], .int .i64 k] w1 fun e w' => e = .returned (.int .i64 (rdyF X (pasF n X K V cr now I k) (V k) (K k))) ∧ Below w1.heap.size w1 w') := fun w1 hb => readyAt_any s (some ⟨b, 0, none⟩) n c n X K V (pasF n X K V cr now I k) k w1 h1 n5 (HK.out k h1) (HVV.out k h1) ((HR.out.below HB0.out).below hb) (HTk.out.row.below hb) (HGG.out k)
      have HCU : Hid (∀ w1, Below wr.heap.size wr w1 → Calls Tryd.prog 59 #[.agg #[.slice s n c, .slice (some ⟨b, 0, none⟩) n n], .int .i64 now] w1 fun e w' => e = .returned (.int .i64 (busI X (pasF n X K V cr now I k) now n)) ∧ Below w1.heap.size w1 w') := fun w1 hb => underWay_any s (some ⟨b, 0, none⟩) n c n X K V (pasF n X K V cr now I k) now w1 n5 ((HR.out.below HB0.out).below hb) (HTk.out.row.below hb) (HGG.out k)
      have HMY : Hid (∀ y r u, pasF n X K V cr now I k k = y → rdyF X (pasF n X K V cr now I k) (V k) (K k) = r → busI X (pasF n X K V cr now I k) now n = u → mayB n X K V cr now (pasF n X K V cr now I k) k = (decide (y = 1000000000) && (decide (r ≤ now) && decide (u < cr)))) := fun y r u e1 e2 e3 => by unfold mayB; rw [e1, e2, e3]; rfl
      have HNO : Hid (mayB n X K V cr now (pasF n X K V cr now I k) k = false → pasF n X K V cr now I (k + 1) = pasF n X K V cr now I k) := pas_no n X K V cr now I
      have HYE : Hid (mayB n X K V cr now (pasF n X K V cr now I k) k = true → pasF n X K V cr now I (k + 1) = updJ (pasF n X K V cr now I k) k now) := pas_yes n X K V cr now I
      have g0 := HTk.out.2.2 k h1
      have f0 := HTk.out.2.1 k
      have rb := rdy_in (X := X) (B := pasF n X K V cr now I k) (v := V k) (h := 1000001000) (by decide) (K k) (fun i hi => by
        have q := HVV.out k h1 i hi
        have := HGG.out k (V k i).toNat (by omega)
        omega)
      have ub := (bus_in (X := X) (B := pasF n X K V cr now I k) (t := now) n).2.2
      obtain ⟨y, hy⟩ : ∃ y, pasF n X K V cr now I k k = y := ⟨_, rfl⟩
      obtain ⟨r, hr⟩ : ∃ r, rdyF X (pasF n X K V cr now I k) (V k) (K k) = r := ⟨_, rfl⟩
      obtain ⟨u, hu⟩ : ∃ u, busI X (pasF n X K V cr now I k) now n = u := ⟨_, rfl⟩
      have HM2 : Hid (mayB n X K V cr now (pasF n X K V cr now I k) k = (decide (y = 1000000000) && (decide (r ≤ now) && decide (u < cr)))) := HMY.out y r u hy hr hu
      rw [hy] at g0
      rw [hr] at HCR rb
      rw [hu] at HCU ub
      clear hy hr hu HMY
      by_cases t0 : y = 1000000000
      case neg =>
        have HP : Hid (pasF n X K V cr now I (k + 1) = pasF n X K V cr now I k) := HNO.out (by rw [HM2.out, decide_eq_false t0]; rfl)
        have t0b : (y == 1000000000) = false := beq_eq_false_iff_ne.2 t0
        go_wp2
        go_roundw
        case rel => exact ⟨k + 1, by omega, by go_num, by rw [HP.out]; exact HTk, q0, q1, zr, HUk⟩
        case measure => first | (simp [intOf]; done) | (simp [intOf]; omega)
      subst t0
      go_wp2_with fail
      refine (HCR.out _ (Below.refl _ _)).mono ?_
      rintro e w3 ⟨rfl, h3⟩
      replace q0 := (h3.cell (p := ⟨w.heap.size, 0, none⟩) zr).trans q0
      replace q1 := (h3.cell (p := ⟨w.heap.size, 1, none⟩) zr).trans q1
      have HT3 : Hid (BegAt w3 b n (pasF n X K V cr now I k)) := HTk.out.below h3
      have HU3 : Hid (Turn (fun k => k = b) w w3) := HUk.out.trans (Turn.grown h3)
      have HB3 : Hid (Below wr.heap.size wr w3) := h3
      have z3 : w.heap.size < w3.heap.size := Nat.lt_of_lt_of_le zr h3.size
      clear h3 g0 f0
      by_cases t1 : r ≤ now
      case neg =>
        have HP : Hid (pasF n X K V cr now I (k + 1) = pasF n X K V cr now I k) := HNO.out (by rw [HM2.out, decide_eq_false t1]; rfl)
        go_wp2
        go_roundw
        case rel => exact ⟨k + 1, by omega, by go_num, by rw [HP.out]; exact HT3, q0, q1, z3, HU3⟩
        case measure => first | (simp [intOf]; done) | (simp [intOf]; omega)
      go_wp2_with fail
      refine (HCU.out _ HB3.out).mono ?_
      rintro e w4 ⟨rfl, h4⟩
      replace q0 := (h4.cell (p := ⟨w.heap.size, 0, none⟩) z3).trans q0
      replace q1 := (h4.cell (p := ⟨w.heap.size, 1, none⟩) z3).trans q1
      have HT4 : Hid (BegAt w4 b n (pasF n X K V cr now I k)) := HT3.out.below h4
      have HU4 : Hid (Turn (fun k => k = b) w w4) := HU3.out.trans (Turn.grown h4)
      have z4 : w.heap.size < w4.heap.size := Nat.lt_of_lt_of_le z3 h4.size
      clear h4 HT3 HU3
      by_cases t2 : u < cr
      case neg =>
        have HP : Hid (pasF n X K V cr now I (k + 1) = pasF n X K V cr now I k) := HNO.out (by rw [HM2.out, decide_eq_false t2]; simp)
        go_wp2
        go_roundw
        case rel => exact ⟨k + 1, by omega, by go_num, by rw [HP.out]; exact HT4, q0, q1, z4, HU4⟩
        case measure => first | (simp [intOf]; done) | (simp [intOf]; omega)
      have HP : Hid (pasF n X K V cr now I (k + 1) = updJ (pasF n X K V cr now I k) k now) := HYE.out (by rw [HM2.out]; simp [t1, t2])
      have g4 := HT4.out.2.2 k h1
      have f4 := HT4.out.2.1 k
      have HTS : Hid (BegAt (w4.setCell ⟨b, k, none⟩ (.int .i64 now)) b n (updJ (pasF n X K V cr now I k) k now)) := HT4.out.set h1
      have HUS : Hid (Turn (fun k => k = b) w (w4.setCell ⟨b, k, none⟩ (.int .i64 now))) := HU4.out.trans (Turn.of (Beside.setCell b w4 k _) rfl)
      have Q2 := keep2S (g := b) (i := k) (v := .int .i64 now) q0 q1 z4 (by omega) (Below.refl _ _)
      go_wp2
      go_roundw
      case rel => exact ⟨k + 1, by omega, by go_num, by rw [HP.out]; exact HTS, Q2.1, Q2.2, by simpa using z4, HUS⟩
      case measure => first | (simp [intOf]; done) | (simp [intOf]; omega)
    · obtain rfl : k = n := by omega
      go_wp2
      go_end0
      exact ⟨rfl, HTk.out, HUk.out⟩
set_option maxRecDepth 20000 in
set_option maxHeartbeats 4000000 in
theorem nextEnd_any (s t : Option Addr) (n c d : Nat) (X : Nat → Int) (K : Nat → Nat) (V : Nat → Nat → Int) (B : Nat → Int) (now : Int) (w : World) (hn : (n : Int) ≤ 40) (HR : Hid (RowJbs w s n X K V)) (HT : Hid (RowI w t n B)) (HG : Hid (∀ j, j < n → (1 ≤ X j ∧ X j ≤ 1000) ∧ 0 ≤ B j ∧ B j ≤ 1000000000)) :
    Calls Tryd.prog 37 #[.agg #[.slice s n c, .slice t n d], .int .i64 now] w fun e w' => e = .returned (.int .i64 (nxI X B now n)) ∧ Below w.heap.size w w' := by
  have HC : Hid (∀ (q : Nat) w1, q < n → Below w.heap.size w w1 → Calls Tryd.prog 56 #[.agg #[.slice s n c, .slice t n d], .int .i64 q] w1 fun e w' => e = .returned (.int .i64 (B q + X q)) ∧ Below w1.heap.size w1 w') := fun q w1 hq hb => endOf_any s t n c d X K V B q w1 hq hn (HR.out.below hb) (HT.out.below hb) HG
  have HS : Hid (∀ j, nxI X B now (j + 1) = if now < B j + X j then mnI (nxI X B now j) (B j + X j) else nxI X B now j) := fun j => rfl
  clear HG HT HR
  go_enter Tryd.func37, Tryd.ntmps37
  go_upto_region 2 with fail
  obtain ⟨wa, hwa⟩ : ∃ wa, wa = w.alloc (.cells #[.slice s n c, .slice t n d] 57) := ⟨_, rfl⟩
  rw [← hwa]
  have hb : Below w.heap.size w wa := by rw [hwa]; exact below0 _ _
  have a0 : wa.cell? ⟨w.heap.size, 0, none⟩ = some (.slice s n c) := by rw [hwa]; simp [go_sem]
  have a1 : wa.cell? ⟨w.heap.size, 1, none⟩ = some (.slice t n d) := by rw [hwa]; simp [go_sem]
  have za : w.heap.size < wa.heap.size := by rw [hwa]; simp
  have HB : Hid (Below w.heap.size w wa) := hb
  have Ha0 : Hid (wa.cell? ⟨w.heap.size, 0, none⟩ = some (.slice s n c)) := a0
  have Ha1 : Hid (wa.cell? ⟨w.heap.size, 1, none⟩ = some (.slice t n d)) := a1
  clear hwa hb
  go_wp2_with fail
  clear a0 a1
  go_loopw [5, 11] (fun v i wr => ∃ j : Nat, j ≤ n ∧ i = .int .i64 (j : Int) ∧ v = .int .i64 (nxI X B now j) ∧ Below wa.heap.size wa wr) (fun _ i _ => n - (intOf i).toNat)
  case atStart => exact ⟨0, Nat.zero_le _, rfl, rfl, Below.refl _ _⟩
  case round =>
    obtain ⟨j, hj, rfl, rfl, hB⟩ := hrel
    by_cases h1 : j < n
    · have a0 := (hB.cell (p := ⟨w.heap.size, 0, none⟩) za).trans Ha0.out
      have a1 := (hB.cell (p := ⟨w.heap.size, 1, none⟩) za).trans Ha1.out
      have B1 : Below w.heap.size w wr := HB.out.trans (hB.mono HB.out.size)
      have HS3 : Hid (nxI X B now (j + 1) = if now < B j + X j then mnI (nxI X B now j) (B j + X j) else nxI X B now j) := HS.out j
      obtain ⟨S, hS⟩ : ∃ S, nxI X B now j = S := ⟨_, rfl⟩
      rw [hS] at HS3 ⊢
      have j1 : (j : Int) < (n : Int) := by omega
      clear hS
      go_wp2_with fail
      refine (HC.out j _ h1 B1).mono ?_
      rintro e w3 ⟨rfl, h3⟩
      replace hB : Below wa.heap.size wa w3 := hB.trans (h3.mono hB.size)
      clear h3 a0 a1
      obtain ⟨E, hE⟩ : ∃ E, B j + X j = E := ⟨_, rfl⟩
      rw [hE] at HS3 ⊢
      clear hE
      by_cases t0 : now < E
      · have HS4 : Hid (nxI X B now (j + 1) = if E < S then E else S) := HS3.out.trans (if_pos t0)
        go_wp2
        all_goals
          go_roundw
          case rel => exact ⟨j + 1, by omega, by go_num, by first | (rw [HS4.out]; done) | (rw [HS4.out]; rename_i z; simp [z]; done) | (rw [HS4.out]; rename_i z; rw [if_pos (by omega)]) | (rw [HS4.out]; rename_i z; rw [if_neg (by omega)]), (by repeat (first | with_reducible exact Below.refl _ _ | with_reducible exact hB | with_reducible refine Below.setCell ?_ (by first | omega | (simp; done) | (simp; omega)) _ | with_reducible refine bDrewN ?_ _ | with_reducible refine Below.drew ?_ | with_reducible refine Below.alloc ?_ (by first | omega | (simp; done) | (simp; omega)) _))⟩
          case measure => first | (simp [intOf]; done) | (simp [intOf]; omega)
      · have HS4 : Hid (nxI X B now (j + 1) = S) := HS3.out.trans (if_neg t0)
        go_wp2
        go_roundw
        case rel => exact ⟨j + 1, by omega, by go_num, by rw [HS4.out], (by repeat (first | with_reducible exact Below.refl _ _ | with_reducible exact hB | with_reducible refine Below.setCell ?_ (by first | omega | (simp; done) | (simp; omega)) _ | with_reducible refine bDrewN ?_ _ | with_reducible refine Below.drew ?_ | with_reducible refine Below.alloc ?_ (by first | omega | (simp; done) | (simp; omega)) _))⟩
        case measure => first | (simp [intOf]; done) | (simp [intOf]; omega)
    · obtain rfl : j = n := by omega
      have B1 : Below w.heap.size w wr := HB.out.trans (hB.mono HB.out.size)
      go_wp2
      go_ret
      exact ⟨rfl, B1⟩
end Go.Proofs.YtffjhbgnhnnfiaaDoor
