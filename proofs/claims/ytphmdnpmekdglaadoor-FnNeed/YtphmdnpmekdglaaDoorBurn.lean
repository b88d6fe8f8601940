/-
What is proved: what the specification's Burn leaves of a fuel and air, for all int64s.
-/
import Derived.Test.YtphmdnpmekdglaaDoorFuel
namespace Go.Proofs.YtphmdnpmekdglaaDoor
set_option maxRecDepth 40000
open Go.RowKit
set_option linter.unusedVariables false

theorem fuel_bounds {c h s o n : Int} (hf : fuelB c h s o n = true) : 0 ≤ c ∧ c ≤ 1000000000 ∧ 0 ≤ h ∧ h ≤ 1000000000 ∧ 0 ≤ s ∧ s ≤ 1000000000 ∧ 0 ≤ o ∧ o ≤ 1000000000 ∧ 0 ≤ n ∧ n ≤ 1000000000 ∧ h % 2 = 0 := by
  unfold fuelB at hf; rw [decide_eq_true_iff] at hf; simp only [inR] at hf; omega

/-- The lesser of two; how much hydrogen, sulphur and carbon burns, and how much of the carbon whole. -/
def mn (a b : Int) : Int := if b < a then b else a
def bH (h o air : Int) : Int := mn (h / 2) (o + 42 * air)
def bS (h s o air : Int) : Int := mn s ((o + 42 * air - bH h o air) / 2)
def bC (c h s o air : Int) : Int := mn c (o + 42 * air - bH h o air - 2 * bS h s o air)
def bD (c h s o air : Int) : Int := mn (bC c h s o air) (o + 42 * air - bH h o air - 2 * bS h s o air - bC c h s o air)
theorem mn_le (a b : Int) : mn a b ≤ a ∧ mn a b ≤ b ∧ (mn a b = a ∨ mn a b = b) := by unfold mn; split <;> omega

/-- What is behind a fire. -/
def flueV (c h s o n air m1 m2 m3 m4 : Int) : Value := .agg #[.int .i64 m4, .int .i64 (m3 - m4), .int .i64 (c - m3), .int .i64 m1, .int .i64 (h / 2 - m1), .int .i64 m2, .int .i64 (s - m2), .int .i64 (o + 42 * air - m1 - 2 * m2 - m3 - m4), .int .i64 (n + 158 * air)]
def flue0 : Value := .agg #[.int .i64 0, .int .i64 0, .int .i64 0, .int .i64 0, .int .i64 0, .int .i64 0, .int .i64 0, .int .i64 0, .int .i64 0]

set_option maxHeartbeats 2000000 in
theorem specBurn_core (c h s o n air m1 m2 m3 m4 : Int) (w : World) (hc1 : 0 ≤ c) (hc2 : c ≤ 1000000000) (hh1 : 0 ≤ h) (hh2 : h ≤ 1000000000) (hs1 : 0 ≤ s) (hs2 : s ≤ 1000000000) (ho1 : 0 ≤ o) (ho2 : o ≤ 1000000000) (hn1 : 0 ≤ n) (hn2 : n ≤ 1000000000) (ha1 : 0 ≤ air) (ha2 : air ≤ 1000000000)
    (e1 : (if o + 42 * air < h / 2 then o + 42 * air else h / 2) = m1) (e2 : (if (o + 42 * air - m1) / 2 < s then (o + 42 * air - m1) / 2 else s) = m2) (e3 : (if o + 42 * air - m1 - 2 * m2 < c then o + 42 * air - m1 - 2 * m2 else c) = m3) (e4 : (if o + 42 * air - m1 - 2 * m2 - m3 < m3 then o + 42 * air - m1 - 2 * m2 - m3 else m3) = m4)
    (b1 : 0 ≤ m1) (b1' : m1 ≤ h / 2) (b1'' : m1 ≤ o + 42 * air) (b2 : 0 ≤ m2) (b2' : m2 ≤ s) (b2'' : m2 ≤ (o + 42 * air - m1) / 2) (b3 : 0 ≤ m3) (b3' : m3 ≤ c) (b3'' : m3 ≤ o + 42 * air - m1 - 2 * m2) (b4 : 0 ≤ m4) (b4' : m4 ≤ m3) (b4'' : m4 ≤ o + 42 * air - m1 - 2 * m2 - m3)
    (K1 : Hid (∀ w, Calls Tryd.prog 28 #[.agg #[.int .i64 c, .int .i64 h, .int .i64 s, .int .i64 o, .int .i64 n]] w fun e w' => e = .returned (.bool true) ∧ Below w.heap.size w w'))
    (K2 : Hid (∀ w, Calls Tryd.prog 29 #[.int .i64 air, .int .i64 0, .int .i64 1000000000] w fun e w' => e = .returned (.bool true) ∧ w' = w)) :
    Calls Tryd.prog 10 #[.agg #[.int .i64 c, .int .i64 h, .int .i64 s, .int .i64 o, .int .i64 n], .int .i64 air] w fun e w' => e = .returned (.tuple #[flueV c h s o n air m1 m2 m3 m4, .bool true]) ∧ Below w.heap.size w w' := by
  go_enter Tryd.func10, Tryd.ntmps10
  go_wp2_with fail
  refine (K1.out _).mono ?_
  rintro e w1 ⟨rfl, hx1⟩
  obtain ⟨hc, hf⟩ := bcell hx1
  have B1 : Below w.heap.size w w1 := Below.trans (by repeat (first | with_reducible exact Below.refl _ _ | with_reducible refine Below.setCell ?_ (by first | omega | (simp; done) | (simp; omega)) _ | with_reducible refine bDrewN ?_ _ | with_reducible refine Below.drew ?_ | with_reducible refine Below.alloc ?_ (by first | omega | (simp; done) | (simp; omega)) _)) (hx1.mono (by first | omega | (simp; done) | (simp; omega)))
  have z1 : w.heap.size + 1 < w1.heap.size := by have := hx1.size; simp at this; omega
  have z1a : w.heap.size < w1.heap.size := by omega
  go_wp2_with fail
  refine (K2.out _).mono ?_
  rintro e w2 ⟨rfl, rfl⟩
  go_wp2
  refine bodyPost_ret (v := .tuple #[flueV c h s o n air m1 m2 m3 m4, .bool true]) (by simp [results, Tryd.results10, go_sem, hc, z1, flueV]) rfl ⟨rfl, ?_⟩
  clear e1 e2 e3 e4 b1 b1' b1'' b2 b2' b2'' b3 b3' b3'' b4 b4' b4'' hc1 hc2 hh1 hh2 hs1 hs2 ho1 ho2 hn1 hn2 ha1 ha2 hc hf
  have s1 := B1.size
  exact (by repeat (first | with_reducible exact Below.refl _ _ | with_reducible exact B1 | with_reducible refine Below.setCell ?_ (by first | omega | (simp; done) | (simp; omega)) _ | with_reducible refine bDrewN ?_ _ | with_reducible refine Below.drew ?_ | with_reducible refine Below.alloc ?_ (by first | omega | (simp; done) | (simp; omega)) _))

/-- Whether there is a fire; what it leaves. -/
def burnOk (c h s o n air : Int) : Bool := fuelB c h s o n && decide (inR air)
def burnV (c h s o n air : Int) : Value := if burnOk c h s o n air = true then flueV c h s o n air (bH h o air) (bS h s o air) (bC c h s o air) (bD c h s o air) else flue0

theorem burn_bounds {c h s o n air : Int} (hf : fuelB c h s o n = true) (ha : inR air) :
    (0 ≤ bH h o air ∧ bH h o air ≤ h / 2 ∧ bH h o air ≤ o + 42 * air) ∧ (0 ≤ bS h s o air ∧ bS h s o air ≤ s ∧ bS h s o air ≤ (o + 42 * air - bH h o air) / 2) ∧
    (0 ≤ bC c h s o air ∧ bC c h s o air ≤ c ∧ bC c h s o air ≤ o + 42 * air - bH h o air - 2 * bS h s o air) ∧
    (0 ≤ bD c h s o air ∧ bD c h s o air ≤ bC c h s o air ∧ bD c h s o air ≤ o + 42 * air - bH h o air - 2 * bS h s o air - bC c h s o air) := by
  have fb := fuel_bounds hf
  obtain ⟨a1, a2⟩ := ha
  have p1 := mn_le (h / 2) (o + 42 * air)
  have p2 := mn_le s ((o + 42 * air - bH h o air) / 2)
  have p3 := mn_le c (o + 42 * air - bH h o air - 2 * bS h s o air)
  have p4 := mn_le (bC c h s o air) (o + 42 * air - bH h o air - 2 * bS h s o air - bC c h s o air)
  have q1 : bH h o air = mn (h / 2) (o + 42 * air) := rfl
  have q2 : bS h s o air = mn s ((o + 42 * air - bH h o air) / 2) := rfl
  have q3 : bC c h s o air = mn c (o + 42 * air - bH h o air - 2 * bS h s o air) := rfl
  have q4 : bD c h s o air = mn (bC c h s o air) (o + 42 * air - bH h o air - 2 * bS h s o air - bC c h s o air) := rfl
  rw [← q1] at p1; rw [← q2] at p2; rw [← q3] at p3; rw [← q4] at p4
  clear q1 q2 q3 q4 hf
  omega

set_option maxHeartbeats 400000 in
theorem specBurn_any (c h s o n air : Int) (w : World) :
    Calls Tryd.prog 10 #[.agg #[.int .i64 c, .int .i64 h, .int .i64 s, .int .i64 o, .int .i64 n], .int .i64 air] w fun e w' => e = .returned (.tuple #[burnV c h s o n air, .bool (burnOk c h s o n air)]) ∧ Below w.heap.size w w' := by
  have K1 : Hid (∀ w, Calls Tryd.prog 28 #[.agg #[.int .i64 c, .int .i64 h, .int .i64 s, .int .i64 o, .int .i64 n]] w fun e w' => e = .returned (.bool (fuelB c h s o n)) ∧ Below w.heap.size w w') := fun w => specFuelOk_any c h s o n w
  cases hf : fuelB c h s o n
  · have e1 : burnOk c h s o n air = false := by simp [burnOk, hf]
    have e2 : burnV c h s o n air = flue0 := by simp [burnV, e1]
    rw [e1, e2]; clear e1 e2
    rw [hf] at K1
    go_enter Tryd.func10, Tryd.ntmps10
    go_wp2_with fail
    refine (K1.out _).mono ?_
    rintro e w1 ⟨rfl, hx1⟩
    obtain ⟨hc, hf⟩ := bcell hx1
    have B1 : Below w.heap.size w w1 := Below.trans (by repeat (first | with_reducible exact Below.refl _ _ | with_reducible refine Below.setCell ?_ (by first | omega | (simp; done) | (simp; omega)) _ | with_reducible refine bDrewN ?_ _ | with_reducible refine Below.drew ?_ | with_reducible refine Below.alloc ?_ (by first | omega | (simp; done) | (simp; omega)) _)) (hx1.mono (by first | omega | (simp; done) | (simp; omega)))
    have z1 : w.heap.size + 1 < w1.heap.size := by have := hx1.size; simp at this; omega
    go_wp2
    refine bodyPost_ret (v := .tuple #[flue0, .bool false]) (by simp [results, Tryd.results10, go_sem, hc, flue0]) rfl ⟨rfl, ?_⟩
    exact (by repeat (first | with_reducible exact Below.refl _ _ | with_reducible exact B1 | with_reducible refine Below.setCell ?_ (by first | omega | (simp; done) | (simp; omega)) _ | with_reducible refine bDrewN ?_ _ | with_reducible refine Below.drew ?_ | with_reducible refine Below.alloc ?_ (by first | omega | (simp; done) | (simp; omega)) _))
  · by_cases ha : inR air
    · have bb := burn_bounds hf ha
      have e1 : burnOk c h s o n air = true := by simp [burnOk, hf, ha]
      have e2 : burnV c h s o n air = flueV c h s o n air (bH h o air) (bS h s o air) (bC c h s o air) (bD c h s o air) := by simp [burnV, e1]
      rw [e1, e2]; clear e1 e2
      rw [hf] at K1
      have fb := fuel_bounds hf
      obtain ⟨⟨x1, x2, x3⟩, ⟨x4, x5, x6⟩, ⟨x7, x8, x9⟩, ⟨x10, x11, x12⟩⟩ := bb
      obtain ⟨f1, f2, f3, f4, f5, f6, f7, f8, f9, f10, _⟩ := fb
      exact specBurn_core c h s o n air _ _ _ _ w f1 f2 f3 f4 f5 f6 f7 f8 f9 f10 ha.1 ha.2 rfl rfl rfl rfl x1 x2 x3 x4 x5 x6 x7 x8 x9 x10 x11 x12 K1 (fun w => l1In_yes air 0 1000000000 w ha.1 ha.2)
    · have e1 : burnOk c h s o n air = false := by simp [burnOk, ha]
      have e2 : burnV c h s o n air = flue0 := by simp [burnV, e1]
      rw [e1, e2]; clear e1 e2
      rw [hf] at K1
      have N : Hid (∀ w : World, Calls Tryd.prog 29 #[.int .i64 air, .int .i64 0, .int .i64 1000000000] w fun e w' => e = .returned (.bool false) ∧ w' = w) := fun w => l1In_no air 0 1000000000 w (by unfold inR at ha; omega)
      go_enter Tryd.func10, Tryd.ntmps10
      go_wp2_with fail
      refine (K1.out _).mono ?_
      rintro e w1 ⟨rfl, hx1⟩
      obtain ⟨hc, hf⟩ := bcell hx1
      have B1 : Below w.heap.size w w1 := Below.trans (by repeat (first | with_reducible exact Below.refl _ _ | with_reducible refine Below.setCell ?_ (by first | omega | (simp; done) | (simp; omega)) _ | with_reducible refine bDrewN ?_ _ | with_reducible refine Below.drew ?_ | with_reducible refine Below.alloc ?_ (by first | omega | (simp; done) | (simp; omega)) _)) (hx1.mono (by first | omega | (simp; done) | (simp; omega)))
      have z1 : w.heap.size + 1 < w1.heap.size := by have := hx1.size; simp at this; omega
      go_wp2_with fail
      refine (N.out _).mono ?_
      rintro e w2 ⟨rfl, rfl⟩
      go_wp2
      refine bodyPost_ret (v := .tuple #[flue0, .bool false]) (by simp [results, Tryd.results10, go_sem, hc, flue0]) rfl ⟨rfl, ?_⟩
      exact (by repeat (first | with_reducible exact Below.refl _ _ | with_reducible exact B1 | with_reducible refine Below.setCell ?_ (by first | omega | (simp; done) | (simp; omega)) _ | with_reducible refine bDrewN ?_ _ | with_reducible refine Below.drew ?_ | with_reducible refine Below.alloc ?_ (by first | omega | (simp; done) | (simp; omega)) _))
end Go.Proofs.YtphmdnpmekdglaaDoor
