/-
What is proved: how much more air there is than is needed, as both packages tell it, for all int64s.
-/
import Derived.Test.YtbiggeejmndloadNeed
import Derived.Test.YtbiggeejmndloadFrac
namespace Go.Proofs.Ytbiggeejmndload
open Go.RowKit
set_option linter.unusedVariables false

def excNum (c h s o n air : Int) : Int := if burnOk c h s o n air = true then mkNum (air - airV c h s o) (airV c h s o) else 0
def excDen (c h s o n air : Int) : Int := if burnOk c h s o n air = true then mkDen (air - airV c h s o) (airV c h s o) else 0
def excOk (c h s o n air : Int) : Bool := if burnOk c h s o n air = true then mkOk (air - airV c h s o) (airV c h s o) else false
theorem exc_no {c h s o n air : Int} (hb : burnOk c h s o n air = false) : excNum c h s o n air = 0 ∧ excDen c h s o n air = 0 ∧ excOk c h s o n air = false := by simp [excNum, excDen, excOk, hb]
theorem exc_yes {c h s o n air : Int} (hb : burnOk c h s o n air = true) : excNum c h s o n air = mkNum (air - airV c h s o) (airV c h s o) ∧ excDen c h s o n air = mkDen (air - airV c h s o) (airV c h s o) ∧ excOk c h s o n air = mkOk (air - airV c h s o) (airV c h s o) := by simp [excNum, excDen, excOk, hb]

set_option maxHeartbeats 1000000 in
theorem specExcess_any (c h s o n air : Int) (w : World) :
    Calls Try.prog 9 #[.agg #[.int .i64 c, .int .i64 h, .int .i64 s, .int .i64 o, .int .i64 n], .int .i64 air] w fun e w' => e = .returned (.tuple #[.agg #[.int .i64 (excNum c h s o n air), .int .i64 (excDen c h s o n air)], .bool (excOk c h s o n air)]) ∧ Below w.heap.size w w' := by
  have K1 : Hid (∀ w, Calls Try.prog 6 #[.agg #[.int .i64 c, .int .i64 h, .int .i64 s, .int .i64 o, .int .i64 n]] w fun e w' => e = .returned (.int .i64 (needV c h s o n)) ∧ Below w.heap.size w w') := fun w => specNeed_any c h s o n w
  by_cases hs : needV c h s o n < 1
  · have ez : excNum c h s o n air = 0 ∧ excDen c h s o n air = 0 ∧ excOk c h s o n air = false := by
      cases hb : burnOk c h s o n air
      · exact exc_no hb
      · have hf : fuelB c h s o n = true := by simp [burnOk] at hb; exact hb.1
        have hz : airV c h s o = 0 := by
          have := air_bounds hf
          have e : needV c h s o n = airV c h s o := by simp [needV, hf]
          omega
        obtain ⟨e1, e2, e3⟩ := exc_yes hb
        obtain ⟨g1, g2, g3⟩ := mk_zero (air - airV c h s o) (airV c h s o) hz
        exact ⟨e1.trans g2, e2.trans g3, e3.trans g1⟩
    obtain ⟨e1, e2, e3⟩ := ez
    rw [e1, e2, e3]; clear e1 e2 e3
    generalize needV c h s o n = T at *
    have b1 : decide (T < 1) = true := by simpa using hs
    go_enter Try.func9, Try.ntmps9
    go_wp2_with fail
    refine (K1.out _).mono ?_
    rintro e w1 ⟨rfl, hx1⟩
    obtain ⟨hc, hf⟩ := bcell hx1
    have B1 : Below w.heap.size w w1 := Below.trans (by repeat (first | with_reducible exact Below.refl _ _ | with_reducible refine Below.setCell ?_ (by first | omega | (simp; done) | (simp; omega)) _ | with_reducible refine bDrewN ?_ _ | with_reducible refine Below.drew ?_ | with_reducible refine Below.alloc ?_ (by first | omega | (simp; done) | (simp; omega)) _)) (hx1.mono (by first | omega | (simp; done) | (simp; omega)))
    go_wp2
    refine bodyPost_ret (v := .tuple #[.agg #[.int .i64 0, .int .i64 0], .bool false]) (by simp [results, Try.results9, go_sem, hc]) rfl ⟨rfl, ?_⟩
    exact (by repeat (first | with_reducible exact Below.refl _ _ | with_reducible exact B1 | with_reducible refine Below.setCell ?_ (by first | omega | (simp; done) | (simp; omega)) _ | with_reducible refine bDrewN ?_ _ | with_reducible refine Below.drew ?_ | with_reducible refine Below.alloc ?_ (by first | omega | (simp; done) | (simp; omega)) _))
  · have hf : fuelB c h s o n = true := by
      cases q : fuelB c h s o n
      · simp [needV, q] at hs
      · rfl
    have e : needV c h s o n = airV c h s o := by simp [needV, hf]
    have ab := air_bounds hf
    rw [e] at K1 hs
    by_cases ha : inR air
    · have hb : burnOk c h s o n air = true := by simp [burnOk, hf, ha]
      obtain ⟨e1, e2, e3⟩ := exc_yes hb
      rw [e1, e2, e3]; clear e1 e2 e3 e hb hf
      obtain ⟨a1, a2⟩ := ha
      have Y : Hid (∀ w : World, Calls Try.prog 20 #[.int .i64 air, .int .i64 0, .int .i64 1000000000] w fun e w' => e = .returned (.bool true) ∧ w' = w) := fun w => l1In_yes air 0 1000000000 w a1 a2
      generalize airV c h s o = T at *
      have K3 := specMakeFrac_any (air - T) T
      generalize mkNum (air - T) T = x at *
      generalize mkDen (air - T) T = y at *
      generalize mkOk (air - T) T = ok at *
      have K4 : Hid (∀ w, Calls Try.prog 21 #[.int .i64 (air - T), .int .i64 T] w fun e w' => e = .returned (.tuple #[.agg #[.int .i64 x, .int .i64 y], .bool ok]) ∧ Below w.heap.size w w') := fun w => K3 w (by omega) (by omega) (by omega) (by omega)
      clear K3
      have b1 : decide (T < 1) = false := by simpa using hs
      go_enter Try.func9, Try.ntmps9
      go_wp2_with fail
      refine (K1.out _).mono ?_
      rintro e w1 ⟨rfl, hx1⟩
      obtain ⟨hc, hf⟩ := bcell hx1
      have B1 : Below w.heap.size w w1 := Below.trans (by repeat (first | with_reducible exact Below.refl _ _ | with_reducible refine Below.setCell ?_ (by first | omega | (simp; done) | (simp; omega)) _ | with_reducible refine bDrewN ?_ _ | with_reducible refine Below.drew ?_ | with_reducible refine Below.alloc ?_ (by first | omega | (simp; done) | (simp; omega)) _)) (hx1.mono (by first | omega | (simp; done) | (simp; omega)))
      have z1 : w.heap.size + 1 < w1.heap.size := by have := hx1.size; simp at this; omega
      go_wp2_with fail
      refine (Y.out _).mono ?_
      rintro e w2 ⟨rfl, rfl⟩
      go_wp2_with fail
      refine (K4.out _).mono ?_
      rintro e w3 ⟨rfl, hx3⟩
      obtain ⟨hc', hf'⟩ := bcell hx3
      have B3 : Below w.heap.size w w3 := B1.trans (hx3.mono B1.size)
      go_wp2
      refine bodyPost_ret (v := .tuple #[.agg #[.int .i64 x, .int .i64 y], .bool ok]) (by simp [results, Try.results9, go_sem, hc, hc', z1]) rfl ⟨rfl, ?_⟩
      exact (by repeat (first | with_reducible exact Below.refl _ _ | with_reducible exact B3 | with_reducible refine Below.setCell ?_ (by first | omega | (simp; done) | (simp; omega)) _ | with_reducible refine bDrewN ?_ _ | with_reducible refine Below.drew ?_ | with_reducible refine Below.alloc ?_ (by first | omega | (simp; done) | (simp; omega)) _))
    · have hb : burnOk c h s o n air = false := by simp [burnOk, ha]
      obtain ⟨e1, e2, e3⟩ := exc_no hb
      rw [e1, e2, e3]; clear e1 e2 e3 e hb hf
      have N : Hid (∀ w : World, Calls Try.prog 20 #[.int .i64 air, .int .i64 0, .int .i64 1000000000] w fun e w' => e = .returned (.bool false) ∧ w' = w) := fun w => l1In_no air 0 1000000000 w (by unfold inR at ha; omega)
      generalize airV c h s o = T at *
      have b1 : decide (T < 1) = false := by simpa using hs
      go_enter Try.func9, Try.ntmps9
      go_wp2_with fail
      refine (K1.out _).mono ?_
      rintro e w1 ⟨rfl, hx1⟩
      obtain ⟨hc, hf⟩ := bcell hx1
      have B1 : Below w.heap.size w w1 := Below.trans (by repeat (first | with_reducible exact Below.refl _ _ | with_reducible refine Below.setCell ?_ (by first | omega | (simp; done) | (simp; omega)) _ | with_reducible refine bDrewN ?_ _ | with_reducible refine Below.drew ?_ | with_reducible refine Below.alloc ?_ (by first | omega | (simp; done) | (simp; omega)) _)) (hx1.mono (by first | omega | (simp; done) | (simp; omega)))
      go_wp2_with fail
      refine (N.out _).mono ?_
      rintro e w2 ⟨rfl, rfl⟩
      go_wp2
      refine bodyPost_ret (v := .tuple #[.agg #[.int .i64 0, .int .i64 0], .bool false]) (by simp [results, Try.results9, go_sem, hc]) rfl ⟨rfl, ?_⟩
      exact (by repeat (first | with_reducible exact Below.refl _ _ | with_reducible exact B1 | with_reducible refine Below.setCell ?_ (by first | omega | (simp; done) | (simp; omega)) _ | with_reducible refine bDrewN ?_ _ | with_reducible refine Below.drew ?_ | with_reducible refine Below.alloc ?_ (by first | omega | (simp; done) | (simp; omega)) _))

set_option maxHeartbeats 400000 in
theorem airOk_any (air : Int) (w : World) : Calls Try.prog 22 #[.int .i64 air] w fun e w' => e = .returned (.bool (decide (inR air))) ∧ w' = w := by
  by_cases ha : inR air
  · rw [decide_eq_true ha]
    have Y : Hid (∀ w : World, Calls Try.prog 28 #[.int .i64 air, .int .i64 0, .int .i64 1000000000] w fun e w' => e = .returned (.bool true) ∧ w' = w) := fun w => within_yes air 0 1000000000 w ha.1 ha.2
    clear ha
    go_enter Try.func22, Try.ntmps22
    go_wp2_with fail
    refine (Y.out _).mono ?_
    rintro e w2 ⟨rfl, rfl⟩
    go_wp2
    go_ret
    exact ⟨rfl, rfl⟩
  · rw [decide_eq_false ha]
    have Y : Hid (∀ w : World, Calls Try.prog 28 #[.int .i64 air, .int .i64 0, .int .i64 1000000000] w fun e w' => e = .returned (.bool false) ∧ w' = w) := fun w => within_no air 0 1000000000 w (by unfold inR at ha; omega)
    clear ha
    go_enter Try.func22, Try.ntmps22
    go_wp2_with fail
    refine (Y.out _).mono ?_
    rintro e w2 ⟨rfl, rfl⟩
    go_wp2
    go_ret
    exact ⟨rfl, rfl⟩

set_option maxHeartbeats 1000000 in
theorem implExcess_any (c h s o n air : Int) (w : World) :
    Calls Try.prog 10 #[.agg #[.int .i64 c, .int .i64 h, .int .i64 s, .int .i64 o, .int .i64 n], .int .i64 air] w fun e w' => e = .returned (.tuple #[.agg #[.int .i64 (excNum c h s o n air), .int .i64 (excDen c h s o n air)], .bool (excOk c h s o n air)]) ∧ Below w.heap.size w w' := by
  have K1 : Hid (∀ w, Calls Try.prog 19 #[.agg #[.int .i64 c, .int .i64 h, .int .i64 s, .int .i64 o, .int .i64 n]] w fun e w' => e = .returned (.bool (fuelB c h s o n)) ∧ Below w.heap.size w w') := fun w => implFuelOk_any c h s o n w
  have K2 : Hid (∀ w : World, Calls Try.prog 22 #[.int .i64 air] w fun e w' => e = .returned (.bool (decide (inR air))) ∧ w' = w) := fun w => airOk_any air w
  have K5 : Hid (∀ w, Calls Try.prog 8 #[.agg #[.int .i64 c, .int .i64 h, .int .i64 s, .int .i64 o, .int .i64 n]] w fun e w' => e = .returned (.int .i64 (needV c h s o n)) ∧ Below w.heap.size w w') := fun w => implNeed_any c h s o n w
  cases hf : fuelB c h s o n
  · have hb : burnOk c h s o n air = false := by simp [burnOk, hf]
    obtain ⟨e1, e2, e3⟩ := exc_no hb
    rw [e1, e2, e3]; clear e1 e2 e3 hb
    rw [hf] at K1
    clear hf K5
    go_enter Try.func10, Try.ntmps10
    go_wp2_with fail
    refine (K1.out _).mono ?_
    rintro e w1 ⟨rfl, hx1⟩
    obtain ⟨hc, hf⟩ := bcell hx1
    have B1 : Below w.heap.size w w1 := Below.trans (by repeat (first | with_reducible exact Below.refl _ _ | with_reducible refine Below.setCell ?_ (by first | omega | (simp; done) | (simp; omega)) _ | with_reducible refine bDrewN ?_ _ | with_reducible refine Below.drew ?_ | with_reducible refine Below.alloc ?_ (by first | omega | (simp; done) | (simp; omega)) _)) (hx1.mono (by first | omega | (simp; done) | (simp; omega)))
    go_wp2
    refine bodyPost_ret (v := .tuple #[.agg #[.int .i64 0, .int .i64 0], .bool false]) (by simp [results, Try.results10, go_sem, hc]) rfl ⟨rfl, ?_⟩
    exact (by repeat (first | with_reducible exact Below.refl _ _ | with_reducible exact B1 | with_reducible refine Below.setCell ?_ (by first | omega | (simp; done) | (simp; omega)) _ | with_reducible refine bDrewN ?_ _ | with_reducible refine Below.drew ?_ | with_reducible refine Below.alloc ?_ (by first | omega | (simp; done) | (simp; omega)) _))
  · have ab := air_bounds hf
    have e : needV c h s o n = airV c h s o := by simp [needV, hf]
    by_cases ha : inR air
    · have hb : burnOk c h s o n air = true := by simp [burnOk, hf, ha]
      obtain ⟨e1, e2, e3⟩ := exc_yes hb
      rw [hf] at K1
      rw [e] at K5
      rw [decide_eq_true ha] at K2
      rw [e1, e2, e3]; clear e1 e2 e3 e hb hf
      obtain ⟨a1, a2⟩ := ha
      generalize airV c h s o = T at *
      have K3 := implMakeFrac_any (air - T) T
      generalize mkNum (air - T) T = x at *
      generalize mkDen (air - T) T = y at *
      generalize mkOk (air - T) T = ok at *
      have K4 : Hid (∀ w, Calls Try.prog 23 #[.int .i64 (air - T), .int .i64 T] w fun e w' => e = .returned (.tuple #[.agg #[.int .i64 x, .int .i64 y], .bool ok]) ∧ Below w.heap.size w w') := fun w => K3 w (by omega) (by omega) (by omega) (by omega)
      clear K3
      go_enter Try.func10, Try.ntmps10
      go_wp2_with fail
      refine (K1.out _).mono ?_
      rintro e w1 ⟨rfl, hx1⟩
      obtain ⟨hc, hf⟩ := bcell hx1
      have B1 : Below w.heap.size w w1 := Below.trans (by repeat (first | with_reducible exact Below.refl _ _ | with_reducible refine Below.setCell ?_ (by first | omega | (simp; done) | (simp; omega)) _ | with_reducible refine bDrewN ?_ _ | with_reducible refine Below.drew ?_ | with_reducible refine Below.alloc ?_ (by first | omega | (simp; done) | (simp; omega)) _)) (hx1.mono (by first | omega | (simp; done) | (simp; omega)))
      have z1 : w.heap.size + 1 < w1.heap.size := by have := hx1.size; simp at this; omega
      have z1a : w.heap.size < w1.heap.size := by omega
      go_wp2_with fail
      refine (K2.out _).mono ?_
      rintro e w2 ⟨rfl, rfl⟩
      go_wp2_with fail
      refine (K5.out _).mono ?_
      rintro e w3 ⟨rfl, hx3⟩
      obtain ⟨hc', hf'⟩ := bcell hx3
      have B3 : Below w.heap.size w w3 := B1.trans (hx3.mono B1.size)
      have z3 : w.heap.size + 1 < w3.heap.size := by have := hx3.size; omega
      go_wp2_with fail
      refine (K4.out _).mono ?_
      rintro e w4 ⟨rfl, hx4⟩
      obtain ⟨hc'', hf''⟩ := bcell hx4
      have B4 : Below w.heap.size w w4 := B3.trans (hx4.mono B3.size)
      go_wp2
      refine bodyPost_ret (v := .tuple #[.agg #[.int .i64 x, .int .i64 y], .bool ok]) (by simp [results, Try.results10, go_sem, hc, hc', hc'', z1, z3]) rfl ⟨rfl, ?_⟩
      exact (by repeat (first | with_reducible exact Below.refl _ _ | with_reducible exact B4 | with_reducible refine Below.setCell ?_ (by first | omega | (simp; done) | (simp; omega)) _ | with_reducible refine bDrewN ?_ _ | with_reducible refine Below.drew ?_ | with_reducible refine Below.alloc ?_ (by first | omega | (simp; done) | (simp; omega)) _))
    · have hb : burnOk c h s o n air = false := by simp [burnOk, ha]
      obtain ⟨e1, e2, e3⟩ := exc_no hb
      rw [hf] at K1
      rw [decide_eq_false ha] at K2
      rw [e1, e2, e3]; clear e1 e2 e3 e hb hf K5 ha
      go_enter Try.func10, Try.ntmps10
      go_wp2_with fail
      refine (K1.out _).mono ?_
      rintro e w1 ⟨rfl, hx1⟩
      obtain ⟨hc, hf⟩ := bcell hx1
      have B1 : Below w.heap.size w w1 := Below.trans (by repeat (first | with_reducible exact Below.refl _ _ | with_reducible refine Below.setCell ?_ (by first | omega | (simp; done) | (simp; omega)) _ | with_reducible refine bDrewN ?_ _ | with_reducible refine Below.drew ?_ | with_reducible refine Below.alloc ?_ (by first | omega | (simp; done) | (simp; omega)) _)) (hx1.mono (by first | omega | (simp; done) | (simp; omega)))
      go_wp2_with fail
      refine (K2.out _).mono ?_
      rintro e w2 ⟨rfl, rfl⟩
      go_wp2
      refine bodyPost_ret (v := .tuple #[.agg #[.int .i64 0, .int .i64 0], .bool false]) (by simp [results, Try.results10, go_sem, hc]) rfl ⟨rfl, ?_⟩
      exact (by repeat (first | with_reducible exact Below.refl _ _ | with_reducible exact B1 | with_reducible refine Below.setCell ?_ (by first | omega | (simp; done) | (simp; omega)) _ | with_reducible refine bDrewN ?_ _ | with_reducible refine Below.drew ?_ | with_reducible refine Below.alloc ?_ (by first | omega | (simp; done) | (simp; omega)) _))
end Go.Proofs.Ytbiggeejmndload
