/-
What is proved: what units give together, as the program counts it; when units are right.
-/
import Derived.Test.YtgekkblfnfclmaaUn
import Derived.Deep.RegionHeld3
import Derived.Deep.DeepCutAuto
namespace Go.Proofs.Ytgekkblfnfclmaa
set_option maxRecDepth 40000
open Go.RowKit
set_option linter.unusedVariables false
set_option linter.unusedSimpArgs false

set_option maxHeartbeats 1000000 in
theorem gives_any (x y f v : Int) (w : World) (p1 : -2000000000 ≤ y * f) (p2 : y * f ≤ 2000000000) (hv : max 0 (min (y * f) x) = v) : Calls Try.prog 30 #[.agg #[.int .i64 x, .int .i64 y], .int .i64 f] w fun e w' => e = .returned (.int .i64 v) ∧ Below w.heap.size w w' := by
  obtain ⟨p, hp⟩ : ∃ p, y * f = p := ⟨_, rfl⟩
  rw [hp] at p1 p2 hv
  have BD : Hid (∀ w, Calls Try.prog 33 #[.int .i64 p, .int .i64 0, .int .i64 x] w fun e w' => e = .returned (.int .i64 v) ∧ w' = w) := fun w => hv ▸ bounded_any p 0 x w
  clear hv
  go_enter Try.func30, Try.ntmps30
  go_wp2_with fail
  refine (BD.out _).mono ?_
  rintro e w1 ⟨rfl, rfl⟩
  go_wp2
  go_ret
  exact ⟨rfl, (by repeat (first | with_reducible exact Below.refl _ _ | with_reducible refine Below.setCell ?_ (by first | omega | (simp; done) | (simp; omega)) _ | with_reducible refine bDrewN ?_ _ | with_reducible refine Below.drew ?_ | with_reducible refine Below.alloc ?_ (by first | omega | (simp; done) | (simp; omega)) _))⟩
theorem gives_givenAt (V : Nat → Int) (j : Nat) (f : Int) (w : World) (h : unitB V j = true) (f0 : 0 ≤ f) (f1 : f ≤ 1000000) : Calls Try.prog 30 #[.agg #[.int .i64 (V (j * 2)), .int .i64 (V (j * 2 + 1))], .int .i64 f] w fun e w' => e = .returned (.int .i64 (gvV V f j)) ∧ Below w.heap.size w w' := by
  obtain ⟨a, b, c, d⟩ := unit_yes h
  obtain ⟨m1, m2⟩ := mul_rng c d f0 f1
  refine gives_any _ _ _ _ _ (by omega) (by omega) ?_
  unfold gvV
  omega
set_option maxHeartbeats 1000000 in
theorem unitRight_any (x y : Int) (w : World) : Calls Try.prog 32 #[.agg #[.int .i64 x, .int .i64 y]] w fun e w' => e = .returned (.bool (inB 0 1000000 x && inB 1 1000 y)) ∧ Below w.heap.size w w' := by
  go_enter Try.func32, Try.ntmps32
  go_wp2_with fail
  refine (within_is _ _ _ _).mono ?_
  rintro e w1 ⟨rfl, rfl⟩
  cases h0 : inB 0 1000000 x
  · go_wp2
    go_ret
    exact ⟨ret_bool (by simp [h0]), (by repeat (first | with_reducible exact Below.refl _ _ | with_reducible refine Below.setCell ?_ (by first | omega | (simp; done) | (simp; omega)) _ | with_reducible refine bDrewN ?_ _ | with_reducible refine Below.drew ?_ | with_reducible refine Below.alloc ?_ (by first | omega | (simp; done) | (simp; omega)) _))⟩
  go_wp2_with fail
  refine (within_is _ _ _ _).mono ?_
  rintro e w1 ⟨rfl, rfl⟩
  go_wp2
  go_ret
  exact ⟨ret_bool (by simp [h0]), (by repeat (first | with_reducible exact Below.refl _ _ | with_reducible refine Below.setCell ?_ (by first | omega | (simp; done) | (simp; omega)) _ | with_reducible refine bDrewN ?_ _ | with_reducible refine Below.drew ?_ | with_reducible refine Below.alloc ?_ (by first | omega | (simp; done) | (simp; omega)) _))⟩
set_option maxRecDepth 20000 in
set_option maxHeartbeats 2000000 in
theorem unitsOk_any (s : Option Addr) (n c : Nat) (V : Nat → Int) (w : World) (hn : (n : Int) ≤ 1048576) (HR : Hid (RowI w s (n * 2) V)) :
    Calls Try.prog 23 #[.slice s n c] w fun e w' => e = .returned (.bool (decide (n ≤ 50) && unitsTo V n)) ∧ Below w.heap.size w w' := by
  by_cases q50 : n ≤ 50
  · have q51 : (n : Int) ≤ 50 := by omega
    have hd : decide (n ≤ 50) = true := decide_eq_true q50
    rw [hd, Bool.true_and]
    clear hd
    go_enter Try.func23, Try.ntmps23
    go_wp2_with fail
    go_loopw [9] (fun i wr => ∃ k : Nat, k ≤ n ∧ i = .int .i64 k ∧ unitsTo V k = true ∧ Below w.heap.size w wr) (fun i _ => n - (intOf i).toNat)
    case atStart => exact ⟨0, Nat.zero_le _, rfl, rfl, Below.refl _ _⟩
    case round =>
      obtain ⟨k, hk, rfl, hu, hB⟩ := hrel
      have HU : Hid (unitsTo V k = true) := hu
      clear hu
      by_cases h1 : k < n
      · obtain ⟨g, o, rfl, hg, c0⟩ := HR.out (k * 2) (by omega)
        obtain ⟨g', o', e', hg', c1⟩ := HR.out (k * 2 + 1) (by omega)
        cases e'
        have d0 : wr.cell? ⟨g, o + k * 2, none⟩ = some (.int .i64 (V (k * 2))) := (hB.cell (p := ⟨g, o + k * 2, none⟩) hg).trans c0
        have d1 : wr.cell? ⟨g, o + k * 2 + 1, none⟩ = some (.int .i64 (V (k * 2 + 1))) := (hB.cell (p := ⟨g, o + (k * 2 + 1), none⟩) hg).trans c1
        have k1 : (k : Int) < (n : Int) := by omega
        have zg : g < wr.heap.size := Nat.lt_of_lt_of_le hg hB.size
        have HB : Hid (Below w.heap.size w wr) := hB
        have HN : Hid (k < n) := h1
        clear hB c0 c1 hg hg'
        go_wp2_with fail
        refine (unitRight_any _ _ _).mono ?_
        rintro r w3 ⟨rfl, h3⟩
        have B3 : Below w.heap.size w w3 := HB.out.trans (h3.mono HB.out.size)
        cases hu : (inB 0 1000000 (V (k * 2)) && inB 1 1000 (V (k * 2 + 1)))
        · have HF : Hid (unitsTo V n = false) := units_no HN.out hu
          go_wp2
          go_ret
          exact ⟨ret_bool HF.out.symm, B3⟩
        · have HF : Hid (unitsTo V (k + 1) = true) := by
            show (unitsTo V k && unitB V k) = true
            rw [HU.out, Bool.true_and]
            exact hu
          go_wp2
          go_round
          case rel => exact ⟨k + 1, by have := HN.out; omega, by go_num, HF.out, B3⟩
          case measure => have := HN.out; simp [intOf]; omega
      · obtain rfl : k = n := by omega
        go_wp2
        go_ret
        exact ⟨ret_bool HU.out.symm, (by repeat (first | with_reducible exact Below.refl _ _ | with_reducible exact hB | with_reducible refine Below.setCell ?_ (by first | omega | (simp; done) | (simp; omega)) _ | with_reducible refine bDrewN ?_ _ | with_reducible refine Below.drew ?_ | with_reducible refine Below.alloc ?_ (by first | omega | (simp; done) | (simp; omega)) _))⟩
  · have hd : decide (n ≤ 50) = false := decide_eq_false q50
    rw [hd, Bool.false_and]
    have q51 : 50 < (n : Int) := by omega
    clear hd
    go_enter Try.func23, Try.ntmps23
    go_wp2
    go_ret
    exact ⟨rfl, (by repeat (first | with_reducible exact Below.refl _ _ | with_reducible refine Below.setCell ?_ (by first | omega | (simp; done) | (simp; omega)) _ | with_reducible refine bDrewN ?_ _ | with_reducible refine Below.drew ?_ | with_reducible refine Below.alloc ?_ (by first | omega | (simp; done) | (simp; omega)) _))⟩
set_option maxRecDepth 20000 in
set_option maxHeartbeats 2000000 in
theorem givenAt_any (s : Option Addr) (n c : Nat) (V : Nat → Int) (f : Int) (w : World) (hn : (n : Int) ≤ 50) (f0 : 0 ≤ f) (f1 : f ≤ 1000000) (HU : Hid (∀ j, j < n → unitB V j = true)) (HR : Hid (RowI w s (n * 2) V)) :
    Calls Try.prog 25 #[.slice s n c, .int .i64 f] w fun e w' => e = .returned (.int .i64 (allV V f n)) ∧ Below w.heap.size w w' := by
  go_enter Try.func25, Try.ntmps25
  go_wp2_with fail
  go_loopw [5, 9] (fun q i wr => ∃ k : Nat, k ≤ n ∧ i = .int .i64 k ∧ q = .int .i64 (allV V f k) ∧ Below w.heap.size w wr) (fun _ i _ => n - (intOf i).toNat)
  case atStart => exact ⟨0, Nat.zero_le _, rfl, rfl, Below.refl _ _⟩
  case round =>
    obtain ⟨k, hk, rfl, rfl, hB⟩ := hrel
    have ab := all_bd (V := V) f0 f1 (n := k) fun j hj => HU.out j (by omega)
    obtain ⟨ab1, ab2⟩ := ab
    by_cases h1 : k < n
    · obtain ⟨g, o, rfl, hg, c0⟩ := HR.out (k * 2) (by omega)
      obtain ⟨g', o', e', hg', c1⟩ := HR.out (k * 2 + 1) (by omega)
      cases e'
      have d0 : wr.cell? ⟨g, o + k * 2, none⟩ = some (.int .i64 (V (k * 2))) := (hB.cell (p := ⟨g, o + k * 2, none⟩) hg).trans c0
      have d1 : wr.cell? ⟨g, o + k * 2 + 1, none⟩ = some (.int .i64 (V (k * 2 + 1))) := (hB.cell (p := ⟨g, o + (k * 2 + 1), none⟩) hg).trans c1
      have k1 : (k : Int) < (n : Int) := by omega
      have zg : g < wr.heap.size := Nat.lt_of_lt_of_le hg hB.size
      have HB : Hid (Below w.heap.size w wr) := hB
      have HN : Hid (allV V f k + gvV V f k = allV V f (k + 1)) := rfl
      have ub := gv_bd (HU.out k h1) f0 f1
      have uc := unit_yes (HU.out k h1)
      obtain ⟨gv, hgv⟩ : ∃ gv, gvV V f k = gv := ⟨_, rfl⟩
      have GV : Hid (∀ w, Calls Try.prog 30 #[.agg #[.int .i64 (V (k * 2)), .int .i64 (V (k * 2 + 1))], .int .i64 f] w fun e w' => e = .returned (.int .i64 gv) ∧ Below w.heap.size w w') := fun w => hgv ▸ gives_givenAt V k f w (HU.out k h1) f0 f1
      rw [hgv] at ub
      have HG : Hid (gvV V f k = gv) := hgv
      clear hB c0 c1 hg hg' hgv
      obtain ⟨a, ha⟩ : ∃ a, allV V f k = a := ⟨_, rfl⟩
      have HA : Hid (allV V f k = a) := ha
      rw [ha] at ab1 ab2 ⊢
      clear ha
      obtain ⟨ub1, ub2⟩ := ub
      obtain ⟨uc1, uc2, uc3, uc4⟩ := uc
      go_wp2_with fail
      refine (GV.out _).mono ?_
      rintro r w3 ⟨rfl, h3⟩
      have B3 : Below w.heap.size w w3 := HB.out.trans (h3.mono HB.out.size)
      go_wp2
      go_round
      case rel => exact ⟨k + 1, by omega, by go_num, by rw [← HN.out, HA.out, HG.out], B3⟩
      case measure => simp [intOf]; omega
    · obtain rfl : k = n := by omega
      go_wp2
      go_ret
      exact ⟨rfl, (by repeat (first | with_reducible exact Below.refl _ _ | with_reducible exact hB | with_reducible refine Below.setCell ?_ (by first | omega | (simp; done) | (simp; omega)) _ | with_reducible refine bDrewN ?_ _ | with_reducible refine Below.drew ?_ | with_reducible refine Below.alloc ?_ (by first | omega | (simp; done) | (simp; omega)) _))⟩
end Go.Proofs.Ytgekkblfnfclmaa
