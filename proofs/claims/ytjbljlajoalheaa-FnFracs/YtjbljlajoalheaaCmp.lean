/-
What is proved: how two fractions stand to each other, as both packages tell it, for all int64s as their parts.
-/
import Derived.Test.YtjbljlajoalheaaSumA
namespace Go.Proofs.Ytjbljlajoalheaa
set_option maxRecDepth 40000
open Go.RowKit

/-- How x stands to y. -/
def sgn (x y : Int) : Int := if x < y then -1 else if y < x then 1 else 0
def cmpV (a b c d : Int) : Int := if rightB a b = true ∧ rightB c d = true then sgn (a * d) (c * b) else -2
theorem cmpV_no {a b c d : Int} (h : rightB a b = false ∨ rightB c d = false) : cmpV a b c d = -2 := by
  unfold cmpV; rw [if_neg]; rcases h with h | h <;> simp [h]
theorem cmpV_yes {a b c d : Int} (h : rightB a b = true) (k : rightB c d = true) : cmpV a b c d = sgn (a * d) (c * b) := by
  unfold cmpV; rw [if_pos ⟨h, k⟩]
theorem sgn_lt {x y : Int} (h : x < y) : sgn x y = -1 := if_pos h
theorem sgn_gt {x y : Int} (h : y < x) : sgn x y = 1 := by unfold sgn; rw [if_neg (by omega), if_pos h]
theorem sgn_eq {x y : Int} (h : x = y) : sgn x y = 0 := by unfold sgn; rw [if_neg (by omega), if_neg (by omega)]

set_option maxHeartbeats 400000 in
theorem compare_any (x y : Int) (w : World) :
    Calls Try.prog 82 #[.int .i64 x, .int .i64 y] w fun e w' => e = .returned (.int .i64 (sgn x y)) ∧ w' = w := by
  by_cases h : x < y
  · rw [sgn_lt h]
    go_enter Try.func82, Try.ntmps82
    go_wp2
    go_ret
    exact ⟨rfl, rfl⟩
  · by_cases k : y < x
    · rw [sgn_gt k]
      go_enter Try.func82, Try.ntmps82
      go_wp2
      go_ret
      exact ⟨rfl, rfl⟩
    · rw [sgn_eq (by omega)]
      go_enter Try.func82, Try.ntmps82
      go_wp2
      go_ret
      exact ⟨rfl, rfl⟩

set_option maxHeartbeats 400000 in
theorem against_any (a b c d : Int) (w : World) (i1 : 1 ≤ b) (i2 : b ≤ 1000000000) (i3 : -1000000000 ≤ a) (i4 : a ≤ 1000000000) (i5 : 1 ≤ d) (i6 : d ≤ 1000000000) (i7 : -1000000000 ≤ c) (i8 : c ≤ 1000000000) :
    Calls Try.prog 53 #[.agg #[.int .i64 a, .int .i64 b], .agg #[.int .i64 c, .int .i64 d]] w fun e w' => e = .returned (.int .i64 (sgn (a * d) (c * b))) ∧ Below w.heap.size w w' := by
  have m1 := mul_bounds i3 i4 (by omega : -1000000000 ≤ d) i6
  have m2 := mul_bounds i7 i8 (by omega : -1000000000 ≤ b) i2
  have K3 : Hid (∀ w, Calls Try.prog 82 #[.int .i64 (a * d), .int .i64 (c * b)] w fun e w' => e = .returned (.int .i64 (sgn (a * d) (c * b))) ∧ w' = w) := fun w => compare_any _ _ w
  have b1 : -1 ≤ sgn (a * d) (c * b) ∧ sgn (a * d) (c * b) ≤ 1 := by unfold sgn; split <;> (try split) <;> omega
  generalize sgn (a * d) (c * b) = r at *
  go_enter Try.func53, Try.ntmps53
  go_wp2_with fail
  refine (K3.out _).mono ?_
  rintro e w3 ⟨rfl, rfl⟩
  go_wp2
  go_ret
  exact ⟨rfl, (by repeat (first | with_reducible exact Below.refl _ _ | with_reducible refine Below.setCell ?_ (by first | omega | (simp; done) | (simp; omega)) _ | with_reducible refine bDrewN ?_ _ | with_reducible refine Below.drew ?_ | with_reducible refine Below.alloc ?_ (by first | omega | (simp; done) | (simp; omega)) _))⟩

set_option maxHeartbeats 400000 in
theorem specCmpFrac_any (a b c d : Int) (w : World) (ha1 : -9223372036854775808 ≤ a) (ha2 : a ≤ 9223372036854775807) (hb1 : -9223372036854775808 ≤ b) (hb2 : b ≤ 9223372036854775807)
    (hc1 : -9223372036854775808 ≤ c) (hc2 : c ≤ 9223372036854775807) (hd1 : -9223372036854775808 ≤ d) (hd2 : d ≤ 9223372036854775807) :
    Calls Try.prog 23 #[.agg #[.int .i64 a, .int .i64 b], .agg #[.int .i64 c, .int .i64 d]] w fun e w' => e = .returned (.int .i64 (cmpV a b c d)) ∧ Below w.heap.size w w' := by
  have K1 : Hid (∀ w, Calls Try.prog 48 #[.agg #[.int .i64 a, .int .i64 b]] w fun e w' => e = .returned (.bool (rightB a b)) ∧ Below w.heap.size w w') := fun w => l1FracOk_any a b w ha1 ha2 hb1 hb2
  have K2 : Hid (∀ w, Calls Try.prog 48 #[.agg #[.int .i64 c, .int .i64 d]] w fun e w' => e = .returned (.bool (rightB c d)) ∧ Below w.heap.size w w') := fun w => l1FracOk_any c d w hc1 hc2 hd1 hd2
  cases r1 : rightB a b
  · rw [cmpV_no (.inl r1)]
    rw [r1] at K1
    go_enter Try.func23, Try.ntmps23
    go_wp2_with fail
    refine (K1.out _).mono ?_
    rintro e w1 ⟨rfl, hx1⟩
    have B1 : Below w.heap.size w w1 := Below.trans (by repeat (first | with_reducible exact Below.refl _ _ | with_reducible refine Below.setCell ?_ (by first | omega | (simp; done) | (simp; omega)) _ | with_reducible refine bDrewN ?_ _ | with_reducible refine Below.drew ?_ | with_reducible refine Below.alloc ?_ (by first | omega | (simp; done) | (simp; omega)) _)) (hx1.mono (by first | omega | (simp; done) | (simp; omega)))
    go_wp2
    go_ret
    exact ⟨rfl, B1⟩
  · cases r2 : rightB c d
    · rw [cmpV_no (.inr r2)]
      rw [r1] at K1
      rw [r2] at K2
      go_enter Try.func23, Try.ntmps23
      go_wp2_with fail
      refine (K1.out _).mono ?_
      rintro e w1 ⟨rfl, hx1⟩
      obtain ⟨hc, hf⟩ := bcell hx1
      have B1 : Below w.heap.size w w1 := Below.trans (by repeat (first | with_reducible exact Below.refl _ _ | with_reducible refine Below.setCell ?_ (by first | omega | (simp; done) | (simp; omega)) _ | with_reducible refine bDrewN ?_ _ | with_reducible refine Below.drew ?_ | with_reducible refine Below.alloc ?_ (by first | omega | (simp; done) | (simp; omega)) _)) (hx1.mono (by first | omega | (simp; done) | (simp; omega)))
      have z1 : w.heap.size + 1 < w1.heap.size := by have := hx1.size; simp at this; omega
      have z1a : w.heap.size < w1.heap.size := by omega
      go_wp2_with fail
      refine (K2.out _).mono ?_
      rintro e w2 ⟨rfl, hx2⟩
      have B2 : Below w.heap.size w w2 := B1.trans (hx2.mono (by first | omega | (simp; done) | (simp; omega)))
      go_wp2
      go_ret
      exact ⟨rfl, B2⟩
    · obtain ⟨i1, i2, i3, i4⟩ := right_bounds r1
      obtain ⟨i5, i6, i7, i8⟩ := right_bounds r2
      have m1 := mul_bounds i3 i4 (by omega : -1000000000 ≤ d) i6
      have m2 := mul_bounds i7 i8 (by omega : -1000000000 ≤ b) i2
      rw [cmpV_yes r1 r2]
      rw [r1] at K1
      rw [r2] at K2

      go_enter Try.func23, Try.ntmps23
      go_wp2_with fail
      refine (K1.out _).mono ?_
      rintro e w1 ⟨rfl, hx1⟩
      obtain ⟨hc, hf⟩ := bcell hx1
      have B1 : Below w.heap.size w w1 := Below.trans (by repeat (first | with_reducible exact Below.refl _ _ | with_reducible refine Below.setCell ?_ (by first | omega | (simp; done) | (simp; omega)) _ | with_reducible refine bDrewN ?_ _ | with_reducible refine Below.drew ?_ | with_reducible refine Below.alloc ?_ (by first | omega | (simp; done) | (simp; omega)) _)) (hx1.mono (by first | omega | (simp; done) | (simp; omega)))
      have z1 : w.heap.size + 1 < w1.heap.size := by have := hx1.size; simp at this; omega
      have z1a : w.heap.size < w1.heap.size := by omega
      go_wp2_with fail
      refine (K2.out _).mono ?_
      rintro e w2 ⟨rfl, hx2⟩
      obtain ⟨hc', hf'⟩ := bcell hx2
      have B2 : Below w.heap.size w w2 := B1.trans (hx2.mono (by first | omega | (simp; done) | (simp; omega)))
      have z2a : w.heap.size < w2.heap.size := by have := hx2.size; omega
      have z2b : w.heap.size + 1 < w2.heap.size := by have := hx2.size; omega
      go_wp2
      all_goals
        go_ret
        exact ⟨ret_int (by first | (rw [sgn_lt (by omega)]) | (rw [sgn_gt (by omega)]) | (rw [sgn_eq (by omega)])), B2⟩

set_option maxHeartbeats 400000 in
theorem implCmpFrac_any (a b c d : Int) (w : World) (ha1 : -9223372036854775808 ≤ a) (ha2 : a ≤ 9223372036854775807) (hb1 : -9223372036854775808 ≤ b) (hb2 : b ≤ 9223372036854775807)
    (hc1 : -9223372036854775808 ≤ c) (hc2 : c ≤ 9223372036854775807) (hd1 : -9223372036854775808 ≤ d) (hd2 : d ≤ 9223372036854775807) :
    Calls Try.prog 22 #[.agg #[.int .i64 a, .int .i64 b], .agg #[.int .i64 c, .int .i64 d]] w fun e w' => e = .returned (.int .i64 (cmpV a b c d)) ∧ Below w.heap.size w w' := by
  have K1 : Hid (∀ w, Calls Try.prog 50 #[.agg #[.int .i64 a, .int .i64 b]] w fun e w' => e = .returned (.bool (rightB a b)) ∧ Below w.heap.size w w') := fun w => right_any a b w ha1 ha2 hb1 hb2
  have K2 : Hid (∀ w, Calls Try.prog 50 #[.agg #[.int .i64 c, .int .i64 d]] w fun e w' => e = .returned (.bool (rightB c d)) ∧ Below w.heap.size w w') := fun w => right_any c d w hc1 hc2 hd1 hd2
  cases r1 : rightB a b
  · rw [cmpV_no (.inl r1)]
    rw [r1] at K1
    go_enter Try.func22, Try.ntmps22
    go_wp2_with fail
    refine (K1.out _).mono ?_
    rintro e w1 ⟨rfl, hx1⟩
    have B1 : Below w.heap.size w w1 := Below.trans (by repeat (first | with_reducible exact Below.refl _ _ | with_reducible refine Below.setCell ?_ (by first | omega | (simp; done) | (simp; omega)) _ | with_reducible refine bDrewN ?_ _ | with_reducible refine Below.drew ?_ | with_reducible refine Below.alloc ?_ (by first | omega | (simp; done) | (simp; omega)) _)) (hx1.mono (by first | omega | (simp; done) | (simp; omega)))
    go_wp2
    go_ret
    exact ⟨rfl, B1⟩
  · cases r2 : rightB c d
    · rw [cmpV_no (.inr r2)]
      rw [r1] at K1
      rw [r2] at K2
      go_enter Try.func22, Try.ntmps22
      go_wp2_with fail
      refine (K1.out _).mono ?_
      rintro e w1 ⟨rfl, hx1⟩
      obtain ⟨hc, hf⟩ := bcell hx1
      have B1 : Below w.heap.size w w1 := Below.trans (by repeat (first | with_reducible exact Below.refl _ _ | with_reducible refine Below.setCell ?_ (by first | omega | (simp; done) | (simp; omega)) _ | with_reducible refine bDrewN ?_ _ | with_reducible refine Below.drew ?_ | with_reducible refine Below.alloc ?_ (by first | omega | (simp; done) | (simp; omega)) _)) (hx1.mono (by first | omega | (simp; done) | (simp; omega)))
      have z1 : w.heap.size + 1 < w1.heap.size := by have := hx1.size; simp at this; omega
      have z1a : w.heap.size < w1.heap.size := by omega
      go_wp2_with fail
      refine (K2.out _).mono ?_
      rintro e w2 ⟨rfl, hx2⟩
      have B2 : Below w.heap.size w w2 := B1.trans (hx2.mono (by first | omega | (simp; done) | (simp; omega)))
      go_wp2
      go_ret
      exact ⟨rfl, B2⟩
    · obtain ⟨i1, i2, i3, i4⟩ := right_bounds r1
      obtain ⟨i5, i6, i7, i8⟩ := right_bounds r2
      have m1 := mul_bounds i3 i4 (by omega : -1000000000 ≤ d) i6
      have m2 := mul_bounds i7 i8 (by omega : -1000000000 ≤ b) i2
      rw [cmpV_yes r1 r2]
      rw [r1] at K1
      rw [r2] at K2
      have K4 : Hid (∀ w, Calls Try.prog 53 #[.agg #[.int .i64 a, .int .i64 b], .agg #[.int .i64 c, .int .i64 d]] w fun e w' => e = .returned (.int .i64 (sgn (a * d) (c * b))) ∧ Below w.heap.size w w') := fun w => against_any a b c d w i1 i2 i3 i4 i5 i6 i7 i8
      generalize sgn (a * d) (c * b) = r at *
      go_enter Try.func22, Try.ntmps22
      go_wp2_with fail
      refine (K1.out _).mono ?_
      rintro e w1 ⟨rfl, hx1⟩
      obtain ⟨hc, hf⟩ := bcell hx1
      have B1 : Below w.heap.size w w1 := Below.trans (by repeat (first | with_reducible exact Below.refl _ _ | with_reducible refine Below.setCell ?_ (by first | omega | (simp; done) | (simp; omega)) _ | with_reducible refine bDrewN ?_ _ | with_reducible refine Below.drew ?_ | with_reducible refine Below.alloc ?_ (by first | omega | (simp; done) | (simp; omega)) _)) (hx1.mono (by first | omega | (simp; done) | (simp; omega)))
      have z1 : w.heap.size + 1 < w1.heap.size := by have := hx1.size; simp at this; omega
      have z1a : w.heap.size < w1.heap.size := by omega
      go_wp2_with fail
      refine (K2.out _).mono ?_
      rintro e w2 ⟨rfl, hx2⟩
      obtain ⟨hc', hf'⟩ := bcell hx2
      have B2 : Below w.heap.size w w2 := B1.trans (hx2.mono (by first | omega | (simp; done) | (simp; omega)))
      have z2a : w.heap.size < w2.heap.size := by have := hx2.size; omega
      have z2b : w.heap.size + 1 < w2.heap.size := by have := hx2.size; omega
      go_wp2_with fail
      refine (K4.out _).mono ?_
      rintro e w3 ⟨rfl, hx3⟩
      have B3 : Below w.heap.size w w3 := B2.trans (hx3.mono (by first | omega | (simp; done) | (simp; omega)))
      go_wp2
      go_ret
      exact ⟨rfl, B3⟩

end Go.Proofs.Ytjbljlajoalheaa
