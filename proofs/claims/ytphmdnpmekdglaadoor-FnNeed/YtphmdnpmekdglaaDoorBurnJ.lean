/-
What is proved: at every fuel and every int64 of air impl.Burn answers as the specification's Burn, where the table of burnings holds what the program's text lays (the card ties that).
-/
import Derived.Test.YtphmdnpmekdglaaDoorIBurn
namespace Go.Proofs.YtphmdnpmekdglaaDoor
set_option maxRecDepth 40000
open Go.ChangeShapes Go.WideShapes Go.ChangeAt Go.RowKit
set_option linter.unusedVariables false

set_option maxHeartbeats 400000 in
theorem airOk_any (air : Int) (w : World) : Calls Tryd.prog 31 #[.int .i64 air] w fun e w' => e = .returned (.bool (decide (inR air))) ∧ w' = w := by
  by_cases ha : inR air
  · rw [decide_eq_true ha]
    have Y : Hid (∀ w : World, Calls Tryd.prog 34 #[.int .i64 air, .int .i64 0, .int .i64 1000000000] w fun e w' => e = .returned (.bool true) ∧ w' = w) := fun w => within_yes air 0 1000000000 w ha.1 ha.2
    clear ha
    go_enter Tryd.func31, Tryd.ntmps31
    go_wp2_with fail
    refine (Y.out _).mono ?_
    rintro e w2 ⟨rfl, rfl⟩
    go_wp2
    go_ret
    exact ⟨rfl, rfl⟩
  · rw [decide_eq_false ha]
    have Y : Hid (∀ w : World, Calls Tryd.prog 34 #[.int .i64 air, .int .i64 0, .int .i64 1000000000] w fun e w' => e = .returned (.bool false) ∧ w' = w) := fun w => within_no air 0 1000000000 w (by unfold inR at ha; omega)
    clear ha
    go_enter Tryd.func31, Tryd.ntmps31
    go_wp2_with fail
    refine (Y.out _).mono ?_
    rintro e w2 ⟨rfl, rfl⟩
    go_wp2
    go_ret
    exact ⟨rfl, rfl⟩

theorem keep5J {W W' : World} {p : Nat} {a b c d e : Value} (h0 : W.cell? ⟨p, 0, none⟩ = some a) (h1 : W.cell? ⟨p, 1, none⟩ = some b) (h2 : W.cell? ⟨p, 2, none⟩ = some c) (h3 : W.cell? ⟨p, 3, none⟩ = some d) (h4 : W.cell? ⟨p, 4, none⟩ = some e)
    (hp : p < W.heap.size) (hb : Below W.heap.size W W') : W'.cell? ⟨p, 0, none⟩ = some a ∧ W'.cell? ⟨p, 1, none⟩ = some b ∧ W'.cell? ⟨p, 2, none⟩ = some c ∧ W'.cell? ⟨p, 3, none⟩ = some d ∧ W'.cell? ⟨p, 4, none⟩ = some e :=
  ⟨(hb.cell (p := ⟨p, 0, none⟩) hp).trans h0, (hb.cell (p := ⟨p, 1, none⟩) hp).trans h1, (hb.cell (p := ⟨p, 2, none⟩) hp).trans h2, (hb.cell (p := ⟨p, 3, none⟩) hp).trans h3, (hb.cell (p := ⟨p, 4, none⟩) hp).trans h4⟩

set_option maxHeartbeats 1000000 in
theorem implBurn_any (c h s o n air : Int) (w : World) (HT : Hid (TabB w)) :
    Calls Tryd.prog 11 #[.agg #[.int .i64 c, .int .i64 h, .int .i64 s, .int .i64 o, .int .i64 n], .int .i64 air] w fun e w' => e = .returned (.tuple #[burnV c h s o n air, .bool (burnOk c h s o n air)]) ∧ Below w.heap.size w w' := by
  have K1 : Hid (∀ w, Calls Tryd.prog 30 #[.agg #[.int .i64 c, .int .i64 h, .int .i64 s, .int .i64 o, .int .i64 n]] w fun e w' => e = .returned (.bool (fuelB c h s o n)) ∧ Below w.heap.size w w') := fun w => implFuelOk_any c h s o n w
  have K2 : Hid (∀ w : World, Calls Tryd.prog 31 #[.int .i64 air] w fun e w' => e = .returned (.bool (decide (inR air))) ∧ w' = w) := fun w => airOk_any air w
  cases hf : fuelB c h s o n
  · have e1 : burnOk c h s o n air = false := by simp [burnOk, hf]
    have e2 : burnV c h s o n air = flue0 := by simp [burnV, e1]
    rw [e1, e2]; clear e1 e2 HT
    rw [hf] at K1
    go_enter Tryd.func11, Tryd.ntmps11
    go_wp2_with fail
    refine (K1.out _).mono ?_
    rintro e w1 ⟨rfl, hx1⟩
    obtain ⟨hc, hf⟩ := bcell hx1
    have B1 : Below w.heap.size w w1 := Below.trans (by repeat (first | with_reducible exact Below.refl _ _ | with_reducible refine Below.setCell ?_ (by first | omega | (simp; done) | (simp; omega)) _ | with_reducible refine bDrewN ?_ _ | with_reducible refine Below.drew ?_ | with_reducible refine Below.alloc ?_ (by first | omega | (simp; done) | (simp; omega)) _)) (hx1.mono (by first | omega | (simp; done) | (simp; omega)))
    have z1 : w.heap.size + 1 < w1.heap.size := by have := hx1.size; simp at this; omega
    go_wp2
    refine bodyPost_ret (v := .tuple #[flue0, .bool false]) (by simp [results, Tryd.results11, go_sem, hc, flue0]) rfl ⟨rfl, ?_⟩
    exact (by repeat (first | with_reducible exact Below.refl _ _ | with_reducible exact B1 | with_reducible refine Below.setCell ?_ (by first | omega | (simp; done) | (simp; omega)) _ | with_reducible refine bDrewN ?_ _ | with_reducible refine Below.drew ?_ | with_reducible refine Below.alloc ?_ (by first | omega | (simp; done) | (simp; omega)) _))
  · by_cases ha : inR air
    · have bb := burn_bounds hf ha
      have e1 : burnOk c h s o n air = true := by simp [burnOk, hf, ha]
      have e2 : burnV c h s o n air = flueV c h s o n air (bH h o air) (bS h s o air) (bC c h s o air) (bD c h s o air) := by simp [burnV, e1]
      rw [e1, e2]; clear e1 e2
      rw [hf] at K1
      rw [decide_eq_true ha] at K2
      have fb := fuel_bounds hf
      obtain ⟨⟨x1, x2, x3⟩, ⟨x4, x5, x6⟩, ⟨x7, x8, x9⟩, ⟨x10, x11, x12⟩⟩ := bb
      obtain ⟨f1, f2, f3, f4, f5, f6, f7, f8, f9, f10, _⟩ := fb
      have d3 : (if o + 42 * air - bH h o air - bS h s o air * 2 < c then o + 42 * air - bH h o air - bS h s o air * 2 else c) = bC c h s o air := by rw [Int.mul_comm (bS h s o air) 2]; rfl
      have d4 : (if o + 42 * air - bH h o air - bS h s o air * 2 - bC c h s o air < bC c h s o air then o + 42 * air - bH h o air - bS h s o air * 2 - bC c h s o air else bC c h s o air) = bD c h s o air := by rw [Int.mul_comm (bS h s o air) 2]; rfl
      have key := implBurn_core c h s o n air (bH h o air) (bS h s o air) (bC c h s o air) (bD c h s o air) w HT f1 f2 f3 f4 f5 f6 f7 f8 f9 f10 ha.1 ha.2 rfl rfl d3 d4 x1 x2 x3 x4 x5 x6 x7 x8 (by omega) x10 x11 (by omega) K1 K2
      rw [Int.mul_comm (bS h s o air) 2] at key
      exact key
    · have e1 : burnOk c h s o n air = false := by simp [burnOk, ha]
      have e2 : burnV c h s o n air = flue0 := by simp [burnV, e1]
      rw [e1, e2]; clear e1 e2 HT
      rw [hf] at K1
      rw [decide_eq_false ha] at K2
      clear ha
      go_enter Tryd.func11, Tryd.ntmps11
      go_wp2_with fail
      refine (K1.out _).mono ?_
      rintro e w1 ⟨rfl, hx1⟩
      obtain ⟨hc, hf⟩ := bcell hx1
      have B1 : Below w.heap.size w w1 := Below.trans (by repeat (first | with_reducible exact Below.refl _ _ | with_reducible refine Below.setCell ?_ (by first | omega | (simp; done) | (simp; omega)) _ | with_reducible refine bDrewN ?_ _ | with_reducible refine Below.drew ?_ | with_reducible refine Below.alloc ?_ (by first | omega | (simp; done) | (simp; omega)) _)) (hx1.mono (by first | omega | (simp; done) | (simp; omega)))
      have z1 : w.heap.size + 1 < w1.heap.size := by have := hx1.size; simp at this; omega
      go_wp2_with fail
      refine (K2.out _).mono ?_
      rintro e w2 ⟨rfl, rfl⟩
      go_wp2
      refine bodyPost_ret (v := .tuple #[flue0, .bool false]) (by simp [results, Tryd.results11, go_sem, hc, flue0]) rfl ⟨rfl, ?_⟩
      exact (by repeat (first | with_reducible exact Below.refl _ _ | with_reducible exact B1 | with_reducible refine Below.setCell ?_ (by first | omega | (simp; done) | (simp; omega)) _ | with_reducible refine bDrewN ?_ _ | with_reducible refine Below.drew ?_ | with_reducible refine Below.alloc ?_ (by first | omega | (simp; done) | (simp; omega)) _))
end Go.Proofs.YtphmdnpmekdglaaDoor
