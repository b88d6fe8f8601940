/-
What is proved: how much air a fuel needs, as both packages tell it, for all int64s as its parts.
-/
import Derived.Test.YtphmdnpmekdglaaDoorBurn
namespace Go.Proofs.YtphmdnpmekdglaaDoor
set_option maxRecDepth 40000
open Go.RowKit
set_option linter.unusedVariables false

set_option maxHeartbeats 1000000 in
theorem clean_core (c h s o n air x0 x1 x2 x3 x4 x5 x6 x7 x8 : Int) (r : Bool) (w : World) (hr : r = decide (x1 = 0 ∧ x2 = 0 ∧ x4 = 0 ∧ x6 = 0))
    (K : Hid (∀ w, Calls Tryd.prog 10 #[.agg #[.int .i64 c, .int .i64 h, .int .i64 s, .int .i64 o, .int .i64 n], .int .i64 air] w fun e w' => e = .returned (.tuple #[.agg #[.int .i64 x0, .int .i64 x1, .int .i64 x2, .int .i64 x3, .int .i64 x4, .int .i64 x5, .int .i64 x6, .int .i64 x7, .int .i64 x8], .bool true]) ∧ Below w.heap.size w w')) :
    Calls Tryd.prog 36 #[.agg #[.int .i64 c, .int .i64 h, .int .i64 s, .int .i64 o, .int .i64 n], .int .i64 air] w fun e w' => e = .returned (.bool r) ∧ Below w.heap.size w w' := by
  by_cases c1 : x1 = 0
  · have t1 : (x1 == 0) = true := by simp [c1]
    by_cases c2 : x2 = 0
    · have t2 : (x2 == 0) = true := by simp [c2]
      by_cases c4 : x4 = 0
      · have t4 : (x4 == 0) = true := by simp [c4]
        by_cases c6 : x6 = 0
        · have t6 : (x6 == 0) = true := by simp [c6]
          have e : r = true := by simp [hr, c1, c2, c4, c6]
          subst e
          clear hr c1 c2 c4 c6
          go_enter Tryd.func36, Tryd.ntmps36
          go_wp2_with fail
          refine (K.out _).mono ?_
          rintro e w1 ⟨rfl, hx1⟩
          have B1 : Below w.heap.size w w1 := Below.trans (by repeat (first | with_reducible exact Below.refl _ _ | with_reducible refine Below.setCell ?_ (by first | omega | (simp; done) | (simp; omega)) _ | with_reducible refine bDrewN ?_ _ | with_reducible refine Below.drew ?_ | with_reducible refine Below.alloc ?_ (by first | omega | (simp; done) | (simp; omega)) _)) (hx1.mono (by first | omega | (simp; done) | (simp; omega)))
          have s1 := B1.size
          go_wp2
          go_ret
          exact ⟨rfl, (by repeat (first | with_reducible exact Below.refl _ _ | with_reducible exact B1 | with_reducible refine Below.setCell ?_ (by first | omega | (simp; done) | (simp; omega)) _ | with_reducible refine bDrewN ?_ _ | with_reducible refine Below.drew ?_ | with_reducible refine Below.alloc ?_ (by first | omega | (simp; done) | (simp; omega)) _))⟩
        · have t6 : (x6 == 0) = false := by simp [c6]
          have e : r = false := by simp [hr, c6]
          subst e
          clear hr c1 c2 c4 c6
          go_enter Tryd.func36, Tryd.ntmps36
          go_wp2_with fail
          refine (K.out _).mono ?_
          rintro e w1 ⟨rfl, hx1⟩
          have B1 : Below w.heap.size w w1 := Below.trans (by repeat (first | with_reducible exact Below.refl _ _ | with_reducible refine Below.setCell ?_ (by first | omega | (simp; done) | (simp; omega)) _ | with_reducible refine bDrewN ?_ _ | with_reducible refine Below.drew ?_ | with_reducible refine Below.alloc ?_ (by first | omega | (simp; done) | (simp; omega)) _)) (hx1.mono (by first | omega | (simp; done) | (simp; omega)))
          have s1 := B1.size
          go_wp2
          go_ret
          exact ⟨rfl, (by repeat (first | with_reducible exact Below.refl _ _ | with_reducible exact B1 | with_reducible refine Below.setCell ?_ (by first | omega | (simp; done) | (simp; omega)) _ | with_reducible refine bDrewN ?_ _ | with_reducible refine Below.drew ?_ | with_reducible refine Below.alloc ?_ (by first | omega | (simp; done) | (simp; omega)) _))⟩
      · have t4 : (x4 == 0) = false := by simp [c4]
        have e : r = false := by simp [hr, c4]
        subst e
        clear hr c1 c2 c4
        go_enter Tryd.func36, Tryd.ntmps36
        go_wp2_with fail
        refine (K.out _).mono ?_
        rintro e w1 ⟨rfl, hx1⟩
        have B1 : Below w.heap.size w w1 := Below.trans (by repeat (first | with_reducible exact Below.refl _ _ | with_reducible refine Below.setCell ?_ (by first | omega | (simp; done) | (simp; omega)) _ | with_reducible refine bDrewN ?_ _ | with_reducible refine Below.drew ?_ | with_reducible refine Below.alloc ?_ (by first | omega | (simp; done) | (simp; omega)) _)) (hx1.mono (by first | omega | (simp; done) | (simp; omega)))
        have s1 := B1.size
        go_wp2
        go_ret
        exact ⟨rfl, (by repeat (first | with_reducible exact Below.refl _ _ | with_reducible exact B1 | with_reducible refine Below.setCell ?_ (by first | omega | (simp; done) | (simp; omega)) _ | with_reducible refine bDrewN ?_ _ | with_reducible refine Below.drew ?_ | with_reducible refine Below.alloc ?_ (by first | omega | (simp; done) | (simp; omega)) _))⟩
    · have t2 : (x2 == 0) = false := by simp [c2]
      have e : r = false := by simp [hr, c2]
      subst e
      clear hr c1 c2
      go_enter Tryd.func36, Tryd.ntmps36
      go_wp2_with fail
      refine (K.out _).mono ?_
      rintro e w1 ⟨rfl, hx1⟩
      have B1 : Below w.heap.size w w1 := Below.trans (by repeat (first | with_reducible exact Below.refl _ _ | with_reducible refine Below.setCell ?_ (by first | omega | (simp; done) | (simp; omega)) _ | with_reducible refine bDrewN ?_ _ | with_reducible refine Below.drew ?_ | with_reducible refine Below.alloc ?_ (by first | omega | (simp; done) | (simp; omega)) _)) (hx1.mono (by first | omega | (simp; done) | (simp; omega)))
      have s1 := B1.size
      go_wp2
      go_ret
      exact ⟨rfl, (by repeat (first | with_reducible exact Below.refl _ _ | with_reducible exact B1 | with_reducible refine Below.setCell ?_ (by first | omega | (simp; done) | (simp; omega)) _ | with_reducible refine bDrewN ?_ _ | with_reducible refine Below.drew ?_ | with_reducible refine Below.alloc ?_ (by first | omega | (simp; done) | (simp; omega)) _))⟩
  · have t1 : (x1 == 0) = false := by simp [c1]
    have e : r = false := by simp [hr, c1]
    subst e
    clear hr c1
    go_enter Tryd.func36, Tryd.ntmps36
    go_wp2_with fail
    refine (K.out _).mono ?_
    rintro e w1 ⟨rfl, hx1⟩
    have B1 : Below w.heap.size w w1 := Below.trans (by repeat (first | with_reducible exact Below.refl _ _ | with_reducible refine Below.setCell ?_ (by first | omega | (simp; done) | (simp; omega)) _ | with_reducible refine bDrewN ?_ _ | with_reducible refine Below.drew ?_ | with_reducible refine Below.alloc ?_ (by first | omega | (simp; done) | (simp; omega)) _)) (hx1.mono (by first | omega | (simp; done) | (simp; omega)))
    have s1 := B1.size
    go_wp2
    go_ret
    exact ⟨rfl, (by repeat (first | with_reducible exact Below.refl _ _ | with_reducible exact B1 | with_reducible refine Below.setCell ?_ (by first | omega | (simp; done) | (simp; omega)) _ | with_reducible refine bDrewN ?_ _ | with_reducible refine Below.drew ?_ | with_reducible refine Below.alloc ?_ (by first | omega | (simp; done) | (simp; omega)) _))⟩

/-- With enough oxygen, and only then, all burns. -/
theorem clean_iff {c h s o n air : Int} (hf : fuelB c h s o n = true) (ha : inR air) :
    (bC c h s o air - bD c h s o air = 0 ∧ c - bC c h s o air = 0 ∧ h / 2 - bH h o air = 0 ∧ s - bS h s o air = 0) ↔ h / 2 + 2 * s + 2 * c ≤ o + 42 * air := by
  have fb := fuel_bounds hf
  obtain ⟨a1, a2⟩ := ha
  have p1 := mn_le (h / 2) (o + 42 * air)
  have p2 := mn_le s ((o + 42 * air - bH h o air) / 2)
  have p3 := mn_le c (o + 42 * air - bH h o air - 2 * bS h s o air)
  have p4 := mn_le (bC c h s o air) (o + 42 * air - bH h o air - 2 * bS h s o air - bC c h s o air)
  have q1 : bH h o air = mn (h / 2) (o + 42 * air) := rfl
  have q2 : bS h s o air = mn s ((o + 42 * air - bH h o air) / 2) := rfl
  have q3 : bC c h s o air = mn c (o + 42 * air - bH h o air - 2 * bS h s o air) := rfl
  have q4 : bD c h s o air = mn (bC c h s o air) (o + 42 * air - bH h o air - 2 * bS h s o air - bC c h s o air) := rfl
  rw [← q1] at p1; rw [← q2] at p2; rw [← q3] at p3; rw [← q4] at p4
  clear q1 q2 q3 q4 hf
  omega

theorem clean_any (c h s o n air : Int) (w : World) (hf : fuelB c h s o n = true) (ha : inR air) :
    Calls Tryd.prog 36 #[.agg #[.int .i64 c, .int .i64 h, .int .i64 s, .int .i64 o, .int .i64 n], .int .i64 air] w fun e w' => e = .returned (.bool (decide (h / 2 + 2 * s + 2 * c ≤ o + 42 * air))) ∧ Below w.heap.size w w' := by
  have e1 : burnOk c h s o n air = true := by simp [burnOk, hf, ha]
  have e2 : burnV c h s o n air = flueV c h s o n air (bH h o air) (bS h s o air) (bC c h s o air) (bD c h s o air) := by simp [burnV, e1]
  have K := specBurn_any c h s o n air
  rw [e1, e2] at K
  refine clean_core c h s o n air _ _ _ _ _ _ _ _ _ _ w ?_ K
  rw [decide_eq_decide]
  exact (clean_iff hf ha).symm

/-- How much air is needed. -/
def lackV (c h s o : Int) : Int := h / 2 + 2 * s + 2 * c - o
def airV (c h s o : Int) : Int := if lackV c h s o ≤ 0 then 0 else (lackV c h s o + 41) / 42
def needV (c h s o n : Int) : Int := if fuelB c h s o n = true then airV c h s o else -1

theorem air_bounds {c h s o n : Int} (hf : fuelB c h s o n = true) : 0 ≤ airV c h s o ∧ airV c h s o ≤ 107142858 := by
  have fb := fuel_bounds hf
  unfold airV lackV; split <;> omega
theorem air_iff {c h s o n : Int} (hf : fuelB c h s o n = true) (air : Int) (ha : 0 ≤ air) : h / 2 + 2 * s + 2 * c ≤ o + 42 * air ↔ airV c h s o ≤ air := by
  have fb := fuel_bounds hf
  unfold airV lackV; split <;> omega

theorem keep5 {W W' : World} {p : Nat} {a b c d e : Value} (h0 : W.cell? ⟨p, 0, none⟩ = some a) (h1 : W.cell? ⟨p, 1, none⟩ = some b) (h2 : W.cell? ⟨p, 2, none⟩ = some c) (h3 : W.cell? ⟨p, 3, none⟩ = some d) (h4 : W.cell? ⟨p, 4, none⟩ = some e)
    (hp : p < W.heap.size) (hb : Below W.heap.size W W') : W'.cell? ⟨p, 0, none⟩ = some a ∧ W'.cell? ⟨p, 1, none⟩ = some b ∧ W'.cell? ⟨p, 2, none⟩ = some c ∧ W'.cell? ⟨p, 3, none⟩ = some d ∧ W'.cell? ⟨p, 4, none⟩ = some e :=
  ⟨(hb.cell (p := ⟨p, 0, none⟩) hp).trans h0, (hb.cell (p := ⟨p, 1, none⟩) hp).trans h1, (hb.cell (p := ⟨p, 2, none⟩) hp).trans h2, (hb.cell (p := ⟨p, 3, none⟩) hp).trans h3, (hb.cell (p := ⟨p, 4, none⟩) hp).trans h4⟩

set_option maxHeartbeats 1000000 in
theorem specNeed_any (c h s o n : Int) (w : World) :
    Calls Tryd.prog 14 #[.agg #[.int .i64 c, .int .i64 h, .int .i64 s, .int .i64 o, .int .i64 n]] w fun e w' => e = .returned (.int .i64 (needV c h s o n)) ∧ Below w.heap.size w w' := by
  have K1 : Hid (∀ w, Calls Tryd.prog 28 #[.agg #[.int .i64 c, .int .i64 h, .int .i64 s, .int .i64 o, .int .i64 n]] w fun e w' => e = .returned (.bool (fuelB c h s o n)) ∧ Below w.heap.size w w') := fun w => specFuelOk_any c h s o n w
  cases hf : fuelB c h s o n
  · have e1 : needV c h s o n = -1 := by simp [needV, hf]
    rw [e1]; clear e1
    rw [hf] at K1
    go_enter Tryd.func14, Tryd.ntmps14
    go_wp2_with fail
    refine (K1.out _).mono ?_
    rintro e w1 ⟨rfl, hx1⟩
    have B1 : Below w.heap.size w w1 := Below.trans (by repeat (first | with_reducible exact Below.refl _ _ | with_reducible refine Below.setCell ?_ (by first | omega | (simp; done) | (simp; omega)) _ | with_reducible refine bDrewN ?_ _ | with_reducible refine Below.drew ?_ | with_reducible refine Below.alloc ?_ (by first | omega | (simp; done) | (simp; omega)) _)) (hx1.mono (by first | omega | (simp; done) | (simp; omega)))
    go_wp2
    go_ret
    exact ⟨rfl, B1⟩
  · have e1 : needV c h s o n = airV c h s o := by simp [needV, hf]
    rw [e1]; clear e1
    rw [hf] at K1
    obtain ⟨n1, n2⟩ := air_bounds hf
    have K2 : Hid (∀ (air : Int) (w : World), 0 ≤ air → air ≤ 1000000000 → Calls Tryd.prog 36 #[.agg #[.int .i64 c, .int .i64 h, .int .i64 s, .int .i64 o, .int .i64 n], .int .i64 air] w fun e w' => e = .returned (.bool (decide (airV c h s o ≤ air))) ∧ Below w.heap.size w w') := fun air w h1 h2 => by
      have := clean_any c h s o n air w hf ⟨h1, h2⟩
      rwa [decide_eq_decide.2 (air_iff hf air h1)] at this
    generalize airV c h s o = T at *
    clear hf
    go_enter Tryd.func14, Tryd.ntmps14
    go_wp2_with fail
    refine (K1.out _).mono ?_
    rintro e w1 ⟨rfl, hx1⟩
    have B1 : Below w.heap.size w w1 := Below.trans (by repeat (first | with_reducible exact Below.refl _ _ | with_reducible refine Below.setCell ?_ (by first | omega | (simp; done) | (simp; omega)) _ | with_reducible refine bDrewN ?_ _ | with_reducible refine Below.drew ?_ | with_reducible refine Below.alloc ?_ (by first | omega | (simp; done) | (simp; omega)) _)) (hx1.mono (by first | omega | (simp; done) | (simp; omega)))
    have z1 : w.heap.size < w1.heap.size := by have := hx1.size; simp at this; omega
    obtain ⟨q0, q1, q2, q3, q4⟩ := keep5 (p := w.heap.size) (a := .int .i64 c) (b := .int .i64 h) (c := .int .i64 s) (d := .int .i64 o) (e := .int .i64 n) (by simp) (by simp) (by simp) (by simp) (by simp) (by first | omega | (simp; done) | (simp; omega)) hx1
    clear hx1
    go_wp2_with fail
    go_loopw [3, 4] (fun a b wr => ∃ lo hi : Int, -1 ≤ lo ∧ lo < T ∧ T ≤ hi ∧ hi ≤ 1000000000 ∧ a = .int .i64 lo ∧ b = .int .i64 hi ∧ Below w1.heap.size w1 wr) (fun a b _ => (intOf b - intOf a).toNat)
    case atStart => exact ⟨-1, 1000000000, by omega, by omega, by omega, by omega, rfl, rfl, Below.refl _ _⟩
    case round =>
      obtain ⟨lo, hi, l1, l2, l3, l4, rfl, rfl, hb⟩ := hrel
      obtain ⟨k0, k1, k2, k3, k4⟩ := keep5 q0 q1 q2 q3 q4 z1 hb
      by_cases hd : hi - lo ≤ 1
      · go_wp2_with fail
        go_ret
        exact ⟨ret_int (by omega), B1.trans (hb.mono B1.size)⟩
      · have hm1 : 0 ≤ lo + hi := by omega
        have hm2 : 0 ≤ (lo + hi) / 2 := by omega
        have hm3 : (lo + hi) / 2 ≤ 1000000000 := by omega
        have C := K2.out ((lo + hi) / 2)
        by_cases ht : T ≤ (lo + hi) / 2
        · rw [decide_eq_true ht] at C
          have C' : Hid _ := C
          clear C
          go_wp2_with fail
          refine (C'.out _ hm2 hm3).mono ?_
          rintro e w2 ⟨rfl, hx2⟩
          have B2 : Below w1.heap.size w1 w2 := hb.trans (hx2.mono hb.size)
          go_wp2
          go_roundw
          case rel => exact ⟨lo, (lo + hi) / 2, l1, l2, ht, hm3, rfl, rfl, B2⟩
          case measure => simp [intOf]; omega
        · rw [decide_eq_false ht] at C
          have C' : Hid _ := C
          clear C
          go_wp2_with fail
          refine (C'.out _ hm2 hm3).mono ?_
          rintro e w2 ⟨rfl, hx2⟩
          have B2 : Below w1.heap.size w1 w2 := hb.trans (hx2.mono hb.size)
          go_wp2
          go_roundw
          case rel => exact ⟨(lo + hi) / 2, hi, by omega, by omega, l3, l4, rfl, rfl, B2⟩
          case measure => simp [intOf]; omega

set_option maxHeartbeats 1000000 in
theorem implNeed_any (c h s o n : Int) (w : World) :
    Calls Tryd.prog 13 #[.agg #[.int .i64 c, .int .i64 h, .int .i64 s, .int .i64 o, .int .i64 n]] w fun e w' => e = .returned (.int .i64 (needV c h s o n)) ∧ Below w.heap.size w w' := by
  have K1 : Hid (∀ w, Calls Tryd.prog 30 #[.agg #[.int .i64 c, .int .i64 h, .int .i64 s, .int .i64 o, .int .i64 n]] w fun e w' => e = .returned (.bool (fuelB c h s o n)) ∧ Below w.heap.size w w') := fun w => implFuelOk_any c h s o n w
  cases hf : fuelB c h s o n
  · have e1 : needV c h s o n = -1 := by simp [needV, hf]
    rw [e1]; clear e1
    rw [hf] at K1
    go_enter Tryd.func13, Tryd.ntmps13
    go_wp2_with fail
    refine (K1.out _).mono ?_
    rintro e w1 ⟨rfl, hx1⟩
    have B1 : Below w.heap.size w w1 := Below.trans (by repeat (first | with_reducible exact Below.refl _ _ | with_reducible refine Below.setCell ?_ (by first | omega | (simp; done) | (simp; omega)) _ | with_reducible refine bDrewN ?_ _ | with_reducible refine Below.drew ?_ | with_reducible refine Below.alloc ?_ (by first | omega | (simp; done) | (simp; omega)) _)) (hx1.mono (by first | omega | (simp; done) | (simp; omega)))
    go_wp2
    go_ret
    exact ⟨rfl, B1⟩
  · obtain ⟨f1, f2, f3, f4, f5, f6, f7, f8, f9, f10, _⟩ := fuel_bounds hf
    have e1 : needV c h s o n = airV c h s o := by simp [needV, hf]
    rw [e1]; clear e1
    rw [hf] at K1
    clear hf
    by_cases hl : h / 2 + 2 * s + 2 * c - o ≤ 0
    · have e2 : airV c h s o = 0 := by simp [airV, lackV, hl]
      rw [e2]; clear e2
      go_enter Tryd.func13, Tryd.ntmps13
      go_wp2_with fail
      refine (K1.out _).mono ?_
      rintro e w1 ⟨rfl, hx1⟩
      have B1 : Below w.heap.size w w1 := Below.trans (by repeat (first | with_reducible exact Below.refl _ _ | with_reducible refine Below.setCell ?_ (by first | omega | (simp; done) | (simp; omega)) _ | with_reducible refine bDrewN ?_ _ | with_reducible refine Below.drew ?_ | with_reducible refine Below.alloc ?_ (by first | omega | (simp; done) | (simp; omega)) _)) (hx1.mono (by first | omega | (simp; done) | (simp; omega)))
      obtain ⟨q0, q1, q2, q3, q4⟩ := keep5 (p := w.heap.size) (a := .int .i64 c) (b := .int .i64 h) (c := .int .i64 s) (d := .int .i64 o) (e := .int .i64 n) (by simp) (by simp) (by simp) (by simp) (by simp) (by first | omega | (simp; done) | (simp; omega)) hx1
      go_wp2
      go_ret
      exact ⟨rfl, B1⟩
    · have e2 : airV c h s o = (h / 2 + 2 * s + 2 * c - o + 41) / 42 := by simp [airV, lackV, hl]
      rw [e2]; clear e2
      go_enter Tryd.func13, Tryd.ntmps13
      go_wp2_with fail
      refine (K1.out _).mono ?_
      rintro e w1 ⟨rfl, hx1⟩
      have B1 : Below w.heap.size w w1 := Below.trans (by repeat (first | with_reducible exact Below.refl _ _ | with_reducible refine Below.setCell ?_ (by first | omega | (simp; done) | (simp; omega)) _ | with_reducible refine bDrewN ?_ _ | with_reducible refine Below.drew ?_ | with_reducible refine Below.alloc ?_ (by first | omega | (simp; done) | (simp; omega)) _)) (hx1.mono (by first | omega | (simp; done) | (simp; omega)))
      obtain ⟨q0, q1, q2, q3, q4⟩ := keep5 (p := w.heap.size) (a := .int .i64 c) (b := .int .i64 h) (c := .int .i64 s) (d := .int .i64 o) (e := .int .i64 n) (by simp) (by simp) (by simp) (by simp) (by simp) (by first | omega | (simp; done) | (simp; omega)) hx1
      go_wp2
      go_ret
      exact ⟨ret_int (by omega), B1⟩
end Go.Proofs.YtphmdnpmekdglaaDoor
