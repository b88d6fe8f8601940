/-
What is proved: at every fuel and every int64 of air impl.Burn answers as the specification's Burn, where the table of burnings holds what the program's text lays (the card ties that).
-/
import Derived.Test.YtbiggeejmndloacDoorIBurn
namespace Go.Proofs.YtbiggeejmndloacDoor
open Go.ChangeShapes Go.WideShapes Go.ChangeAt Go.RowKit
set_option linter.unusedVariables false

set_option maxHeartbeats 400000 in
theorem airOk_any (air : Int) (w : World) : Calls Tryd.prog 16 #[.int .i64 air] w fun e w' => e = .returned (.bool (decide (inR air))) ∧ w' = w := by
  by_cases ha : inR air
  · rw [decide_eq_true ha]
    have Y : Hid (∀ w : World, Calls Tryd.prog 20 #[.int .i64 air, .int .i64 0, .int .i64 1000000000] w fun e w' => e = .returned (.bool true) ∧ w' = w) := fun w => within_yes air 0 1000000000 w ha.1 ha.2
    clear ha
    go_enter Tryd.func16, Tryd.ntmps16
    go_wp2_with fail
    refine (Y.out _).mono ?_
    rintro e w2 ⟨rfl, rfl⟩
    go_wp2
    go_ret
    exact ⟨rfl, rfl⟩
  · rw [decide_eq_false ha]
    have Y : Hid (∀ w : World, Calls Tryd.prog 20 #[.int .i64 air, .int .i64 0, .int .i64 1000000000] w fun e w' => e = .returned (.bool false) ∧ w' = w) := fun w => within_no air 0 1000000000 w (by unfold inR at ha; omega)
    clear ha
    go_enter Tryd.func16, Tryd.ntmps16
    go_wp2_with fail
    refine (Y.out _).mono ?_
    rintro e w2 ⟨rfl, rfl⟩
    go_wp2
    go_ret
    exact ⟨rfl, rfl⟩

theorem keep5 {W W' : World} {p : Nat} {a b c d e : Value} (h0 : W.cell? ⟨p, 0, none⟩ = some a) (h1 : W.cell? ⟨p, 1, none⟩ = some b) (h2 : W.cell? ⟨p, 2, none⟩ = some c) (h3 : W.cell? ⟨p, 3, none⟩ = some d) (h4 : W.cell? ⟨p, 4, none⟩ = some e)
    (hp : p < W.heap.size) (hb : Below W.heap.size W W') : W'.cell? ⟨p, 0, none⟩ = some a ∧ W'.cell? ⟨p, 1, none⟩ = some b ∧ W'.cell? ⟨p, 2, none⟩ = some c ∧ W'.cell? ⟨p, 3, none⟩ = some d ∧ W'.cell? ⟨p, 4, none⟩ = some e :=
  ⟨(hb.cell (p := ⟨p, 0, none⟩) hp).trans h0, (hb.cell (p := ⟨p, 1, none⟩) hp).trans h1, (hb.cell (p := ⟨p, 2, none⟩) hp).trans h2, (hb.cell (p := ⟨p, 3, none⟩) hp).trans h3, (hb.cell (p := ⟨p, 4, none⟩) hp).trans h4⟩

set_option maxHeartbeats 1000000 in
theorem implBurn_any (c h s o n air : Int) (w : World) (HT : Hid (TabB w)) :
    Calls Tryd.prog 7 #[.agg #[.int .i64 c, .int .i64 h, .int .i64 s, .int .i64 o, .int .i64 n], .int .i64 air] w fun e w' => e = .returned (.tuple #[burnV c h s o n air, .bool (burnOk c h s o n air)]) ∧ Below w.heap.size w w' := by
  have K1 : Hid (∀ w, Calls Tryd.prog 15 #[.agg #[.int .i64 c, .int .i64 h, .int .i64 s, .int .i64 o, .int .i64 n]] w fun e w' => e = .returned (.bool (fuelB c h s o n)) ∧ Below w.heap.size w w') := fun w => implFuelOk_any c h s o n w
  have K2 : Hid (∀ w : World, Calls Tryd.prog 16 #[.int .i64 air] w fun e w' => e = .returned (.bool (decide (inR air))) ∧ w' = w) := fun w => airOk_any air w
  cases hf : fuelB c h s o n
  · have e1 : burnOk c h s o n air = false := by simp [burnOk, hf]
    have e2 : burnV c h s o n air = flue0 := by simp [burnV, e1]
    rw [e1, e2]; clear e1 e2 HT
    rw [hf] at K1
    go_enter Tryd.func7, Tryd.ntmps7
    go_wp2_with fail
    refine (K1.out _).mono ?_
    rintro e w1 ⟨rfl, hx1⟩
    obtain ⟨hc, hf⟩ := bcell hx1
    have B1 : Below w.heap.size w w1 := Below.trans (by repeat (first | with_reducible exact Below.refl _ _ | with_reducible refine Below.setCell ?_ (by first | omega | (simp; done) | (simp; omega)) _ | with_reducible refine bDrewN ?_ _ | with_reducible refine Below.drew ?_ | with_reducible refine Below.alloc ?_ (by first | omega | (simp; done) | (simp; omega)) _)) (hx1.mono (by first | omega | (simp; done) | (simp; omega)))
    have z1 : w.heap.size + 1 < w1.heap.size := by have := hx1.size; simp at this; omega
    go_wp2
    refine bodyPost_ret (v := .tuple #[flue0, .bool false]) (by simp [results, Tryd.results7, go_sem, hc, flue0]) rfl ⟨rfl, ?_⟩
    exact (by repeat (first | with_reducible exact Below.refl _ _ | with_reducible exact B1 | with_reducible refine Below.setCell ?_ (by first | omega | (simp; done) | (simp; omega)) _ | with_reducible refine bDrewN ?_ _ | with_reducible refine Below.drew ?_ | with_reducible refine Below.alloc ?_ (by first | omega | (simp; done) | (simp; omega)) _))
  · by_cases ha : inR air
    · have bb := burn_bounds hf ha
      have e1 : burnOk c h s o n air = true := by simp [burnOk, hf, ha]
      have e2 : burnV c h s o n air = flueV c h s o n air (bH h o air) (bS h s o air) (bC c h s o air) (bD c h s o air) := by simp [burnV, e1]
      rw [e1, e2]; clear e1 e2
      rw [hf] at K1
      rw [decide_eq_true ha] at K2
      have fb := fuel_bounds hf
      obtain ⟨⟨x1, x2, x3⟩, ⟨x4, x5, x6⟩, ⟨x7, x8, x9⟩, ⟨x10, x11, x12⟩⟩ := bb
      obtain ⟨f1, f2, f3, f4, f5, f6, f7, f8, f9, f10, _⟩ := fb
      have d3 : (if o + 42 * air - bH h o air - bS h s o air * 2 < c then o + 42 * air - bH h o air - bS h s o air * 2 else c) = bC c h s o air := by rw [Int.mul_comm (bS h s o air) 2]; rfl
      have d4 : (if o + 42 * air - bH h o air - bS h s o air * 2 - bC c h s o air < bC c h s o air then o + 42 * air - bH h o air - bS h s o air * 2 - bC c h s o air else bC c h s o air) = bD c h s o air := by rw [Int.mul_comm (bS h s o air) 2]; rfl
      have key := implBurn_core c h s o n air (bH h o air) (bS h s o air) (bC c h s o air) (bD c h s o air) w HT f1 f2 f3 f4 f5 f6 f7 f8 f9 f10 ha.1 ha.2 rfl rfl d3 d4 x1 x2 x3 x4 x5 x6 x7 x8 (by omega) x10 x11 (by omega) K1 K2
      rw [Int.mul_comm (bS h s o air) 2] at key
      exact key
    · have e1 : burnOk c h s o n air = false := by simp [burnOk, ha]
      have e2 : burnV c h s o n air = flue0 := by simp [burnV, e1]
      rw [e1, e2]; clear e1 e2 HT
      rw [hf] at K1
      rw [decide_eq_false ha] at K2
      clear ha
      go_enter Tryd.func7, Tryd.ntmps7
      go_wp2_with fail
      refine (K1.out _).mono ?_
      rintro e w1 ⟨rfl, hx1⟩
      obtain ⟨hc, hf⟩ := bcell hx1
      have B1 : Below w.heap.size w w1 := Below.trans (by repeat (first | with_reducible exact Below.refl _ _ | with_reducible refine Below.setCell ?_ (by first | omega | (simp; done) | (simp; omega)) _ | with_reducible refine bDrewN ?_ _ | with_reducible refine Below.drew ?_ | with_reducible refine Below.alloc ?_ (by first | omega | (simp; done) | (simp; omega)) _)) (hx1.mono (by first | omega | (simp; done) | (simp; omega)))
      have z1 : w.heap.size + 1 < w1.heap.size := by have := hx1.size; simp at this; omega
      go_wp2_with fail
      refine (K2.out _).mono ?_
      rintro e w2 ⟨rfl, rfl⟩
      go_wp2
      refine bodyPost_ret (v := .tuple #[flue0, .bool false]) (by simp [results, Tryd.results7, go_sem, hc, flue0]) rfl ⟨rfl, ?_⟩
      exact (by repeat (first | with_reducible exact Below.refl _ _ | with_reducible exact B1 | with_reducible refine Below.setCell ?_ (by first | omega | (simp; done) | (simp; omega)) _ | with_reducible refine bDrewN ?_ _ | with_reducible refine Below.drew ?_ | with_reducible refine Below.alloc ?_ (by first | omega | (simp; done) | (simp; omega)) _))

set_option maxHeartbeats 400000 in
theorem eqFlue_any (x0 x1 x2 x3 x4 x5 x6 x7 x8 : Int) (w : World) :
    Calls Tryd.prog 8 #[.agg #[.int .i64 x0, .int .i64 x1, .int .i64 x2, .int .i64 x3, .int .i64 x4, .int .i64 x5, .int .i64 x6, .int .i64 x7, .int .i64 x8], .agg #[.int .i64 x0, .int .i64 x1, .int .i64 x2, .int .i64 x3, .int .i64 x4, .int .i64 x5, .int .i64 x6, .int .i64 x7, .int .i64 x8]] w fun e w' => e = .returned (.bool true) ∧ Below w.heap.size w w' := by
  go_enter Tryd.func8, Tryd.ntmps8
  go_wp2
  go_ret
  exact ⟨rfl, (by repeat (first | with_reducible exact Below.refl _ _ | with_reducible refine Below.setCell ?_ (by first | omega | (simp; done) | (simp; omega)) _ | with_reducible refine bDrewN ?_ _ | with_reducible refine Below.drew ?_ | with_reducible refine Below.alloc ?_ (by first | omega | (simp; done) | (simp; omega)) _))⟩

set_option maxHeartbeats 1000000 in
theorem burn_law (c h s o n air x0 x1 x2 x3 x4 x5 x6 x7 x8 : Int) (ok : Bool) (w : World) (HT : Hid (TabB w))
    (H1 : Hid (∀ w, Calls Tryd.prog 5 #[.agg #[.int .i64 c, .int .i64 h, .int .i64 s, .int .i64 o, .int .i64 n], .int .i64 air] w fun e w' => e = .returned (.tuple #[.agg #[.int .i64 x0, .int .i64 x1, .int .i64 x2, .int .i64 x3, .int .i64 x4, .int .i64 x5, .int .i64 x6, .int .i64 x7, .int .i64 x8], .bool ok]) ∧ Below w.heap.size w w'))
    (H2 : Hid (∀ w, TabB w → Calls Tryd.prog 7 #[.agg #[.int .i64 c, .int .i64 h, .int .i64 s, .int .i64 o, .int .i64 n], .int .i64 air] w fun e w' => e = .returned (.tuple #[.agg #[.int .i64 x0, .int .i64 x1, .int .i64 x2, .int .i64 x3, .int .i64 x4, .int .i64 x5, .int .i64 x6, .int .i64 x7, .int .i64 x8], .bool ok]) ∧ Below w.heap.size w w')) :
    Calls Tryd.prog 3 #[.agg #[.int .i64 c, .int .i64 h, .int .i64 s, .int .i64 o, .int .i64 n], .int .i64 air] w fun e w' => e = .returned (.bool true) ∧ Below w.heap.size w w' := by
  go_enter Tryd.func3, Tryd.ntmps3
  go_wp2_with fail
  refine (toFuel_any c h s o n _).mono ?_
  rintro e w1 ⟨rfl, rfl⟩
  go_wp2_with fail
  refine (H1.out _).mono ?_
  rintro e w2 ⟨rfl, hx⟩
  obtain ⟨q0, q1, q2, q3, q4⟩ := keep5 (p := w.heap.size) (a := .int .i64 c) (b := .int .i64 h) (c := .int .i64 s) (d := .int .i64 o) (e := .int .i64 n) (by simp) (by simp) (by simp) (by simp) (by simp) (by first | omega | (simp; done) | (simp; omega)) (Below.trans (by repeat (first | with_reducible exact Below.refl _ _ | with_reducible refine Below.setCell ?_ (by first | omega | (simp; done) | (simp; omega)) _ | with_reducible refine bDrewN ?_ _ | with_reducible refine Below.drew ?_ | with_reducible refine Below.alloc ?_ (by first | omega | (simp; done) | (simp; omega)) _)) (hx.mono (by first | omega | (simp; done) | (simp; omega))) : Below (w.alloc (.cells #[.int .i64 c, .int .i64 h, .int .i64 s, .int .i64 o, .int .i64 n] 23)).heap.size (w.alloc (.cells #[.int .i64 c, .int .i64 h, .int .i64 s, .int .i64 o, .int .i64 n] 23)) w2)
  have B2 : Below w.heap.size w w2 := Below.trans (by repeat (first | with_reducible exact Below.refl _ _ | with_reducible refine Below.setCell ?_ (by first | omega | (simp; done) | (simp; omega)) _ | with_reducible refine bDrewN ?_ _ | with_reducible refine Below.drew ?_ | with_reducible refine Below.alloc ?_ (by first | omega | (simp; done) | (simp; omega)) _)) (hx.mono (by first | omega | (simp; done) | (simp; omega)))
  have z2 : w.heap.size < w2.heap.size := by have := hx.size; simp at this; omega
  go_wp2_with fail
  refine (toFuel_any c h s o n _).mono ?_
  rintro e w3 ⟨rfl, rfl⟩
  go_wp2_with fail
  refine (H2.out _ (HT.out.below (B := w.heap.size) (by repeat (first | with_reducible exact Below.refl _ _ | with_reducible exact B2 | with_reducible refine Below.setCell ?_ (by first | omega | (simp; done) | (simp; omega)) _ | with_reducible refine bDrewN ?_ _ | with_reducible refine Below.drew ?_ | with_reducible refine Below.alloc ?_ (by first | omega | (simp; done) | (simp; omega)) _)) HT.out.lt)).mono ?_
  rintro e w4 ⟨rfl, hy⟩
  have B4 : Below w.heap.size w w4 := Below.trans (by repeat (first | with_reducible exact Below.refl _ _ | with_reducible exact B2 | with_reducible refine Below.setCell ?_ (by first | omega | (simp; done) | (simp; omega)) _ | with_reducible refine bDrewN ?_ _ | with_reducible refine Below.drew ?_ | with_reducible refine Below.alloc ?_ (by first | omega | (simp; done) | (simp; omega)) _)) (hy.mono (by first | omega | (simp; done) | (simp; omega)))
  have hz : Below (w2.alloc (.cells #[.int .i64 x0, .int .i64 x1, .int .i64 x2, .int .i64 x3, .int .i64 x4, .int .i64 x5, .int .i64 x6, .int .i64 x7, .int .i64 x8] 25)).heap.size (w2.alloc (.cells #[.int .i64 x0, .int .i64 x1, .int .i64 x2, .int .i64 x3, .int .i64 x4, .int .i64 x5, .int .i64 x6, .int .i64 x7, .int .i64 x8] 25)) w4 := Below.trans (by repeat (first | with_reducible exact Below.refl _ _ | with_reducible refine Below.setCell ?_ (by first | omega | (simp; done) | (simp; omega)) _ | with_reducible refine bDrewN ?_ _ | with_reducible refine Below.drew ?_ | with_reducible refine Below.alloc ?_ (by first | omega | (simp; done) | (simp; omega)) _)) (hy.mono (by first | omega | (simp; done) | (simp; omega)))
  have r0 : w4.cell? ⟨w2.heap.size, 0, none⟩ = some (.int .i64 x0) := by rw [hz.cell (by first | omega | (simp; done) | (simp; omega))]; simp
  have r1 : w4.cell? ⟨w2.heap.size, 1, none⟩ = some (.int .i64 x1) := by rw [hz.cell (by first | omega | (simp; done) | (simp; omega))]; simp
  have r2 : w4.cell? ⟨w2.heap.size, 2, none⟩ = some (.int .i64 x2) := by rw [hz.cell (by first | omega | (simp; done) | (simp; omega))]; simp
  have r3 : w4.cell? ⟨w2.heap.size, 3, none⟩ = some (.int .i64 x3) := by rw [hz.cell (by first | omega | (simp; done) | (simp; omega))]; simp
  have r4 : w4.cell? ⟨w2.heap.size, 4, none⟩ = some (.int .i64 x4) := by rw [hz.cell (by first | omega | (simp; done) | (simp; omega))]; simp
  have r5 : w4.cell? ⟨w2.heap.size, 5, none⟩ = some (.int .i64 x5) := by rw [hz.cell (by first | omega | (simp; done) | (simp; omega))]; simp
  have r6 : w4.cell? ⟨w2.heap.size, 6, none⟩ = some (.int .i64 x6) := by rw [hz.cell (by first | omega | (simp; done) | (simp; omega))]; simp
  have r7 : w4.cell? ⟨w2.heap.size, 7, none⟩ = some (.int .i64 x7) := by rw [hz.cell (by first | omega | (simp; done) | (simp; omega))]; simp
  have r8 : w4.cell? ⟨w2.heap.size, 8, none⟩ = some (.int .i64 x8) := by rw [hz.cell (by first | omega | (simp; done) | (simp; omega))]; simp
  have z4 : w2.heap.size < w4.heap.size := by have := hy.size; simp at this; omega
  clear hx hy
  go_wp2_with fail
  refine (eqFlue_any x0 x1 x2 x3 x4 x5 x6 x7 x8 _).mono ?_
  rintro e w5 ⟨rfl, hb5⟩
  have B5 : Below w.heap.size w w5 := Below.trans (by repeat (first | with_reducible exact Below.refl _ _ | with_reducible exact B4 | with_reducible refine Below.setCell ?_ (by first | omega | (simp; done) | (simp; omega)) _ | with_reducible refine bDrewN ?_ _ | with_reducible refine Below.drew ?_ | with_reducible refine Below.alloc ?_ (by first | omega | (simp; done) | (simp; omega)) _)) (hb5.mono (by first | omega | (simp; done) | (simp; omega)))
  go_wp2
  go_ret
  exact ⟨rfl, B5⟩

theorem fnExactBurn_walk (c : Int) (wc : (Lit.int .i64 c).wf = true) (h : Int) (wh : (Lit.int .i64 h).wf = true) (s : Int) (ws : (Lit.int .i64 s).wf = true) (o : Int) (wo : (Lit.int .i64 o).wf = true) (n : Int) (wn : (Lit.int .i64 n).wf = true) (air : Int) (wa : (Lit.int .i64 air).wf = true) (w : World) (hT : TabB w) :
    Calls Tryd.prog 3 #[.agg #[.int .i64 c, .int .i64 h, .int .i64 s, .int .i64 o, .int .i64 n], .int .i64 air] w fun e w' => e = .returned (.bool true) ∧ Below w.heap.size w w' := by
  have S := specBurn_any c h s o n air
  have M := fun w h' => implBurn_any c h s o n air w h'
  cases ho : burnOk c h s o n air
  · have e : burnV c h s o n air = flue0 := by simp [burnV, ho]
    rw [ho, e] at S M
    exact burn_law c h s o n air _ _ _ _ _ _ _ _ _ _ w hT S M
  · have e : burnV c h s o n air = flueV c h s o n air (bH h o air) (bS h s o air) (bC c h s o air) (bD c h s o air) := by simp [burnV, ho]
    rw [ho, e] at S M
    exact burn_law c h s o n air _ _ _ _ _ _ _ _ _ _ w hT S M
end Go.Proofs.YtbiggeejmndloacDoor
