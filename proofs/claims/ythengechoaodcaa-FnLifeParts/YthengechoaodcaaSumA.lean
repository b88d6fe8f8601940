/-
What is proved: what the sum and the product of two fractions are, as both packages tell them, for all int64s as their parts.
-/
import Derived.Test.YthengechoaodcaaRight2
import Derived.Test.YthengechoaodcaaFrac
namespace Go.Proofs.Ythengechoaodcaa
set_option maxRecDepth 40000
open Go.RowKit

/-- The number, the divisor and the flag of a fraction that is made of two right ones. -/
def opNum (a b c d n m : Int) : Int := if rightB a b = true ∧ rightB c d = true then mkNum n m else 0
def opDen (a b c d n m : Int) : Int := if rightB a b = true ∧ rightB c d = true then mkDen n m else 0
def opOk (a b c d n m : Int) : Bool := if rightB a b = true ∧ rightB c d = true then mkOk n m else false

theorem op_no {a b c d n m : Int} (h : rightB a b = false ∨ rightB c d = false) : opNum a b c d n m = 0 ∧ opDen a b c d n m = 0 ∧ opOk a b c d n m = false := by
  have : ¬ (rightB a b = true ∧ rightB c d = true) := by rcases h with h | h <;> simp [h]
  exact ⟨if_neg this, if_neg this, if_neg this⟩
theorem op_yes {a b c d n m : Int} (h : rightB a b = true) (k : rightB c d = true) : opNum a b c d n m = mkNum n m ∧ opDen a b c d n m = mkDen n m ∧ opOk a b c d n m = mkOk n m :=
  ⟨if_pos ⟨h, k⟩, if_pos ⟨h, k⟩, if_pos ⟨h, k⟩⟩
theorem right_bounds {n d : Int} (h : rightB n d = true) : 1 ≤ d ∧ d ≤ 1000000000 ∧ -1000000000 ≤ n ∧ n ≤ 1000000000 := by
  unfold rightB at h; rw [decide_eq_true_iff] at h; omega
theorem mul_bounds {n d : Int} (h1 : -1000000000 ≤ n) (h2 : n ≤ 1000000000) (h3 : -1000000000 ≤ d) (h4 : d ≤ 1000000000) : -1000000000000000000 ≤ n * d ∧ n * d ≤ 1000000000000000000 := by
  have hn : n.natAbs ≤ 1000000000 := by omega
  have hd : d.natAbs ≤ 1000000000 := by omega
  have := Nat.mul_le_mul hn hd
  have e : (n * d).natAbs = n.natAbs * d.natAbs := Int.natAbs_mul n d
  omega

set_option maxHeartbeats 400000 in
theorem specAddFrac_any (a b c d : Int) (w : World) (ha1 : -9223372036854775808 ≤ a) (ha2 : a ≤ 9223372036854775807) (hb1 : -9223372036854775808 ≤ b) (hb2 : b ≤ 9223372036854775807)
    (hc1 : -9223372036854775808 ≤ c) (hc2 : c ≤ 9223372036854775807) (hd1 : -9223372036854775808 ≤ d) (hd2 : d ≤ 9223372036854775807) :
    Calls Try.prog 34 #[.agg #[.int .i64 a, .int .i64 b], .agg #[.int .i64 c, .int .i64 d]] w fun e w' => e = .returned (.tuple #[.agg #[.int .i64 (opNum a b c d (a * d + c * b) (b * d)), .int .i64 (opDen a b c d (a * d + c * b) (b * d))], .bool (opOk a b c d (a * d + c * b) (b * d))]) ∧ Below w.heap.size w w' := by
  have K1 : Hid (∀ w, Calls Try.prog 61 #[.agg #[.int .i64 a, .int .i64 b]] w fun e w' => e = .returned (.bool (rightB a b)) ∧ Below w.heap.size w w') := fun w => l1FracOk_any a b w ha1 ha2 hb1 hb2
  have K2 : Hid (∀ w, Calls Try.prog 61 #[.agg #[.int .i64 c, .int .i64 d]] w fun e w' => e = .returned (.bool (rightB c d)) ∧ Below w.heap.size w w') := fun w => l1FracOk_any c d w hc1 hc2 hd1 hd2
  cases r1 : rightB a b
  · obtain ⟨e1, e2, e3⟩ := op_no (n := a * d + c * b) (m := b * d) (.inl r1 : rightB a b = false ∨ rightB c d = false)
    rw [e1, e2, e3]; clear e1 e2 e3
    rw [r1] at K1
    go_enter Try.func34, Try.ntmps34
    go_wp2_with fail
    refine (K1.out _).mono ?_
    rintro e w1 ⟨rfl, hx1⟩
    obtain ⟨hc, hf⟩ := bcell hx1
    have B1 : Below w.heap.size w w1 := Below.trans (by repeat (first | with_reducible exact Below.refl _ _ | with_reducible refine Below.setCell ?_ (by first | omega | (simp; done) | (simp; omega)) _ | with_reducible refine bDrewN ?_ _ | with_reducible refine Below.drew ?_ | with_reducible refine Below.alloc ?_ (by first | omega | (simp; done) | (simp; omega)) _)) (hx1.mono (by first | omega | (simp; done) | (simp; omega)))
    go_wp2
    exact bodyPost_ret (v := .tuple #[.agg #[.int .i64 0, .int .i64 0], .bool false]) (by simp [results, Try.results34, go_sem, hc]) rfl ⟨rfl, (by repeat (first | with_reducible exact Below.refl _ _ | with_reducible exact B1 | with_reducible refine Below.setCell ?_ (by first | omega | (simp; done) | (simp; omega)) _ | with_reducible refine bDrewN ?_ _ | with_reducible refine Below.drew ?_ | with_reducible refine Below.alloc ?_ (by first | omega | (simp; done) | (simp; omega)) _))⟩
  · cases r2 : rightB c d
    · obtain ⟨e1, e2, e3⟩ := op_no (n := a * d + c * b) (m := b * d) (.inr r2 : rightB a b = false ∨ rightB c d = false)
      rw [e1, e2, e3]; clear e1 e2 e3
      rw [r1] at K1
      rw [r2] at K2
      go_enter Try.func34, Try.ntmps34
      go_wp2_with fail
      refine (K1.out _).mono ?_
      rintro e w1 ⟨rfl, hx1⟩
      obtain ⟨hc, hf⟩ := bcell hx1
      have B1 : Below w.heap.size w w1 := Below.trans (by repeat (first | with_reducible exact Below.refl _ _ | with_reducible refine Below.setCell ?_ (by first | omega | (simp; done) | (simp; omega)) _ | with_reducible refine bDrewN ?_ _ | with_reducible refine Below.drew ?_ | with_reducible refine Below.alloc ?_ (by first | omega | (simp; done) | (simp; omega)) _)) (hx1.mono (by first | omega | (simp; done) | (simp; omega)))
      have z1 : w.heap.size + 1 + 1 < w1.heap.size := by have := hx1.size; simp at this; omega
      have z1a : w.heap.size < w1.heap.size := by omega
      have z1b : w.heap.size + 1 < w1.heap.size := by omega
      go_wp2_with fail
      refine (K2.out _).mono ?_
      rintro e w2 ⟨rfl, hx2⟩
      obtain ⟨hc', hf'⟩ := bcell hx2
      have B2 : Below w.heap.size w w2 := B1.trans (hx2.mono (by first | omega | (simp; done) | (simp; omega)))
      go_wp2
      exact bodyPost_ret (v := .tuple #[.agg #[.int .i64 0, .int .i64 0], .bool false]) (by simp [results, Try.results34, go_sem, hc, hc', z1]) rfl ⟨rfl, (by repeat (first | with_reducible exact Below.refl _ _ | with_reducible exact B2 | with_reducible refine Below.setCell ?_ (by first | omega | (simp; done) | (simp; omega)) _ | with_reducible refine bDrewN ?_ _ | with_reducible refine Below.drew ?_ | with_reducible refine Below.alloc ?_ (by first | omega | (simp; done) | (simp; omega)) _))⟩
    · obtain ⟨e1, e2, e3⟩ := op_yes (n := a * d + c * b) (m := b * d) r1 r2
      rw [e1, e2, e3]; clear e1 e2 e3
      obtain ⟨i1, i2, i3, i4⟩ := right_bounds r1
      obtain ⟨i5, i6, i7, i8⟩ := right_bounds r2
      have m1 := mul_bounds i3 i4 (by omega : -1000000000 ≤ d) i6
      have m2 := mul_bounds i7 i8 (by omega : -1000000000 ≤ b) i2
      have m3 := mul_bounds (by omega : -1000000000 ≤ b) i2 (by omega : -1000000000 ≤ d) i6
      have m4 := mul_bounds i3 i4 i7 i8
      rw [r1] at K1
      rw [r2] at K2
      have K3 := specMakeFrac_any (a * d + c * b) (b * d)
      generalize mkNum (a * d + c * b) (b * d) = x at *
      generalize mkDen (a * d + c * b) (b * d) = y at *
      generalize mkOk (a * d + c * b) (b * d) = ok at *
      have K4 : Hid (∀ w, Calls Try.prog 54 #[.int .i64 (a * d + c * b), .int .i64 (b * d)] w fun e w' => e = .returned (.tuple #[.agg #[.int .i64 x, .int .i64 y], .bool ok]) ∧ Below w.heap.size w w') := fun w => K3 w (by omega) (by omega) (by omega) (by omega)
      clear K3
      go_enter Try.func34, Try.ntmps34
      go_wp2_with fail
      refine (K1.out _).mono ?_
      rintro e w1 ⟨rfl, hx1⟩
      obtain ⟨hc, hf⟩ := bcell hx1
      have B1 : Below w.heap.size w w1 := Below.trans (by repeat (first | with_reducible exact Below.refl _ _ | with_reducible refine Below.setCell ?_ (by first | omega | (simp; done) | (simp; omega)) _ | with_reducible refine bDrewN ?_ _ | with_reducible refine Below.drew ?_ | with_reducible refine Below.alloc ?_ (by first | omega | (simp; done) | (simp; omega)) _)) (hx1.mono (by first | omega | (simp; done) | (simp; omega)))
      have z1 : w.heap.size + 1 + 1 < w1.heap.size := by have := hx1.size; simp at this; omega
      have z1a : w.heap.size < w1.heap.size := by omega
      have z1b : w.heap.size + 1 < w1.heap.size := by omega
      go_wp2_with fail
      refine (K2.out _).mono ?_
      rintro e w2 ⟨rfl, hx2⟩
      obtain ⟨hc', hf'⟩ := bcell hx2
      have B2 : Below w.heap.size w w2 := B1.trans (hx2.mono (by first | omega | (simp; done) | (simp; omega)))
      have z2 : w.heap.size + 1 + 1 < w2.heap.size := by have := hx2.size; omega
      have z2a : w.heap.size < w2.heap.size := by omega
      have z2b : w.heap.size + 1 < w2.heap.size := by omega
      go_wp2_with fail
      refine (K4.out _).mono ?_
      rintro e w3 ⟨rfl, hx3⟩
      obtain ⟨hc'', hf''⟩ := bcell hx3
      have B3 : Below w.heap.size w w3 := B2.trans (hx3.mono (by first | omega | (simp; done) | (simp; omega)))
      go_wp2
      exact bodyPost_ret (v := .tuple #[.agg #[.int .i64 x, .int .i64 y], .bool ok]) (by simp [results, Try.results34, go_sem, hc, hc', hc'', z1, z2]) rfl ⟨rfl, (by repeat (first | with_reducible exact Below.refl _ _ | with_reducible exact B3 | with_reducible refine Below.setCell ?_ (by first | omega | (simp; done) | (simp; omega)) _ | with_reducible refine bDrewN ?_ _ | with_reducible refine Below.drew ?_ | with_reducible refine Below.alloc ?_ (by first | omega | (simp; done) | (simp; omega)) _))⟩

set_option maxHeartbeats 400000 in
theorem plus_any (a b c d : Int) (w : World) (i1 : 1 ≤ b) (i2 : b ≤ 1000000000) (i3 : -1000000000 ≤ a) (i4 : a ≤ 1000000000) (i5 : 1 ≤ d) (i6 : d ≤ 1000000000) (i7 : -1000000000 ≤ c) (i8 : c ≤ 1000000000) :
    Calls Try.prog 57 #[.agg #[.int .i64 a, .int .i64 b], .agg #[.int .i64 c, .int .i64 d]] w fun e w' => e = .returned (.tuple #[.agg #[.int .i64 (mkNum (a * d + c * b) (b * d)), .int .i64 (mkDen (a * d + c * b) (b * d))], .bool (mkOk (a * d + c * b) (b * d))]) ∧ Below w.heap.size w w' := by
  have m1 := mul_bounds i3 i4 (by omega : -1000000000 ≤ d) i6
  have m2 := mul_bounds i7 i8 (by omega : -1000000000 ≤ b) i2
  have m3 := mul_bounds (by omega : -1000000000 ≤ b) i2 (by omega : -1000000000 ≤ d) i6
  have m4 := mul_bounds i3 i4 i7 i8
  have K3 := implMakeFrac_any (a * d + c * b) (b * d)
  generalize mkNum (a * d + c * b) (b * d) = x at *
  generalize mkDen (a * d + c * b) (b * d) = y at *
  generalize mkOk (a * d + c * b) (b * d) = ok at *
  have K4 : Hid (∀ w, Calls Try.prog 75 #[.int .i64 (a * d + c * b), .int .i64 (b * d)] w fun e w' => e = .returned (.tuple #[.agg #[.int .i64 x, .int .i64 y], .bool ok]) ∧ Below w.heap.size w w') := fun w => K3 w (by omega) (by omega) (by omega) (by omega)
  clear K3
  go_enter Try.func57, Try.ntmps57
  go_wp2_with fail
  refine (K4.out _).mono ?_
  rintro e w3 ⟨rfl, hx3⟩
  obtain ⟨hc'', hf''⟩ := bcell hx3
  have B3 : Below w.heap.size w w3 := Below.trans (by repeat (first | with_reducible exact Below.refl _ _ | with_reducible refine Below.setCell ?_ (by first | omega | (simp; done) | (simp; omega)) _ | with_reducible refine bDrewN ?_ _ | with_reducible refine Below.drew ?_ | with_reducible refine Below.alloc ?_ (by first | omega | (simp; done) | (simp; omega)) _)) (hx3.mono (by first | omega | (simp; done) | (simp; omega)))
  go_wp2
  exact bodyPost_ret (v := .tuple #[.agg #[.int .i64 x, .int .i64 y], .bool ok]) (by simp [results, Try.results57, go_sem, hc'']) rfl ⟨rfl, (by repeat (first | with_reducible exact Below.refl _ _ | with_reducible exact B3 | with_reducible refine Below.setCell ?_ (by first | omega | (simp; done) | (simp; omega)) _ | with_reducible refine bDrewN ?_ _ | with_reducible refine Below.drew ?_ | with_reducible refine Below.alloc ?_ (by first | omega | (simp; done) | (simp; omega)) _))⟩

set_option maxHeartbeats 400000 in
theorem implAddFrac_any (a b c d : Int) (w : World) (ha1 : -9223372036854775808 ≤ a) (ha2 : a ≤ 9223372036854775807) (hb1 : -9223372036854775808 ≤ b) (hb2 : b ≤ 9223372036854775807)
    (hc1 : -9223372036854775808 ≤ c) (hc2 : c ≤ 9223372036854775807) (hd1 : -9223372036854775808 ≤ d) (hd2 : d ≤ 9223372036854775807) :
    Calls Try.prog 26 #[.agg #[.int .i64 a, .int .i64 b], .agg #[.int .i64 c, .int .i64 d]] w fun e w' => e = .returned (.tuple #[.agg #[.int .i64 (opNum a b c d (a * d + c * b) (b * d)), .int .i64 (opDen a b c d (a * d + c * b) (b * d))], .bool (opOk a b c d (a * d + c * b) (b * d))]) ∧ Below w.heap.size w w' := by
  have K1 : Hid (∀ w, Calls Try.prog 56 #[.agg #[.int .i64 a, .int .i64 b]] w fun e w' => e = .returned (.bool (rightB a b)) ∧ Below w.heap.size w w') := fun w => right_any a b w ha1 ha2 hb1 hb2
  have K2 : Hid (∀ w, Calls Try.prog 56 #[.agg #[.int .i64 c, .int .i64 d]] w fun e w' => e = .returned (.bool (rightB c d)) ∧ Below w.heap.size w w') := fun w => right_any c d w hc1 hc2 hd1 hd2
  cases r1 : rightB a b
  · obtain ⟨e1, e2, e3⟩ := op_no (n := a * d + c * b) (m := b * d) (.inl r1 : rightB a b = false ∨ rightB c d = false)
    rw [e1, e2, e3]; clear e1 e2 e3
    rw [r1] at K1
    go_enter Try.func26, Try.ntmps26
    go_wp2_with fail
    refine (K1.out _).mono ?_
    rintro e w1 ⟨rfl, hx1⟩
    obtain ⟨hc, hf⟩ := bcell hx1
    have B1 : Below w.heap.size w w1 := Below.trans (by repeat (first | with_reducible exact Below.refl _ _ | with_reducible refine Below.setCell ?_ (by first | omega | (simp; done) | (simp; omega)) _ | with_reducible refine bDrewN ?_ _ | with_reducible refine Below.drew ?_ | with_reducible refine Below.alloc ?_ (by first | omega | (simp; done) | (simp; omega)) _)) (hx1.mono (by first | omega | (simp; done) | (simp; omega)))
    go_wp2
    exact bodyPost_ret (v := .tuple #[.agg #[.int .i64 0, .int .i64 0], .bool false]) (by simp [results, Try.results26, go_sem, hc]) rfl ⟨rfl, (by repeat (first | with_reducible exact Below.refl _ _ | with_reducible exact B1 | with_reducible refine Below.setCell ?_ (by first | omega | (simp; done) | (simp; omega)) _ | with_reducible refine bDrewN ?_ _ | with_reducible refine Below.drew ?_ | with_reducible refine Below.alloc ?_ (by first | omega | (simp; done) | (simp; omega)) _))⟩
  · cases r2 : rightB c d
    · obtain ⟨e1, e2, e3⟩ := op_no (n := a * d + c * b) (m := b * d) (.inr r2 : rightB a b = false ∨ rightB c d = false)
      rw [e1, e2, e3]; clear e1 e2 e3
      rw [r1] at K1
      rw [r2] at K2
      go_enter Try.func26, Try.ntmps26
      go_wp2_with fail
      refine (K1.out _).mono ?_
      rintro e w1 ⟨rfl, hx1⟩
      obtain ⟨hc, hf⟩ := bcell hx1
      have B1 : Below w.heap.size w w1 := Below.trans (by repeat (first | with_reducible exact Below.refl _ _ | with_reducible refine Below.setCell ?_ (by first | omega | (simp; done) | (simp; omega)) _ | with_reducible refine bDrewN ?_ _ | with_reducible refine Below.drew ?_ | with_reducible refine Below.alloc ?_ (by first | omega | (simp; done) | (simp; omega)) _)) (hx1.mono (by first | omega | (simp; done) | (simp; omega)))
      have z1 : w.heap.size + 1 + 1 < w1.heap.size := by have := hx1.size; simp at this; omega
      have z1a : w.heap.size < w1.heap.size := by omega
      have z1b : w.heap.size + 1 < w1.heap.size := by omega
      go_wp2_with fail
      refine (K2.out _).mono ?_
      rintro e w2 ⟨rfl, hx2⟩
      obtain ⟨hc', hf'⟩ := bcell hx2
      have B2 : Below w.heap.size w w2 := B1.trans (hx2.mono (by first | omega | (simp; done) | (simp; omega)))
      go_wp2
      exact bodyPost_ret (v := .tuple #[.agg #[.int .i64 0, .int .i64 0], .bool false]) (by simp [results, Try.results26, go_sem, hc, hc', z1]) rfl ⟨rfl, (by repeat (first | with_reducible exact Below.refl _ _ | with_reducible exact B2 | with_reducible refine Below.setCell ?_ (by first | omega | (simp; done) | (simp; omega)) _ | with_reducible refine bDrewN ?_ _ | with_reducible refine Below.drew ?_ | with_reducible refine Below.alloc ?_ (by first | omega | (simp; done) | (simp; omega)) _))⟩
    · obtain ⟨e1, e2, e3⟩ := op_yes (n := a * d + c * b) (m := b * d) r1 r2
      rw [e1, e2, e3]; clear e1 e2 e3
      obtain ⟨i1, i2, i3, i4⟩ := right_bounds r1
      obtain ⟨i5, i6, i7, i8⟩ := right_bounds r2
      have m1 := mul_bounds i3 i4 (by omega : -1000000000 ≤ d) i6
      have m2 := mul_bounds i7 i8 (by omega : -1000000000 ≤ b) i2
      have m3 := mul_bounds (by omega : -1000000000 ≤ b) i2 (by omega : -1000000000 ≤ d) i6
      have m4 := mul_bounds i3 i4 i7 i8
      rw [r1] at K1
      rw [r2] at K2
      have K3 := plus_any a b c d
      generalize mkNum (a * d + c * b) (b * d) = x at *
      generalize mkDen (a * d + c * b) (b * d) = y at *
      generalize mkOk (a * d + c * b) (b * d) = ok at *
      have K4 : Hid (∀ w, Calls Try.prog 57 #[.agg #[.int .i64 a, .int .i64 b], .agg #[.int .i64 c, .int .i64 d]] w fun e w' => e = .returned (.tuple #[.agg #[.int .i64 x, .int .i64 y], .bool ok]) ∧ Below w.heap.size w w') := fun w => K3 w i1 i2 i3 i4 i5 i6 i7 i8
      clear K3
      go_enter Try.func26, Try.ntmps26
      go_wp2_with fail
      refine (K1.out _).mono ?_
      rintro e w1 ⟨rfl, hx1⟩
      obtain ⟨hc, hf⟩ := bcell hx1
      have B1 : Below w.heap.size w w1 := Below.trans (by repeat (first | with_reducible exact Below.refl _ _ | with_reducible refine Below.setCell ?_ (by first | omega | (simp; done) | (simp; omega)) _ | with_reducible refine bDrewN ?_ _ | with_reducible refine Below.drew ?_ | with_reducible refine Below.alloc ?_ (by first | omega | (simp; done) | (simp; omega)) _)) (hx1.mono (by first | omega | (simp; done) | (simp; omega)))
      have z1 : w.heap.size + 1 + 1 < w1.heap.size := by have := hx1.size; simp at this; omega
      have z1a : w.heap.size < w1.heap.size := by omega
      have z1b : w.heap.size + 1 < w1.heap.size := by omega
      go_wp2_with fail
      refine (K2.out _).mono ?_
      rintro e w2 ⟨rfl, hx2⟩
      obtain ⟨hc', hf'⟩ := bcell hx2
      have B2 : Below w.heap.size w w2 := B1.trans (hx2.mono (by first | omega | (simp; done) | (simp; omega)))
      have z2 : w.heap.size + 1 + 1 < w2.heap.size := by have := hx2.size; omega
      have z2a : w.heap.size < w2.heap.size := by omega
      have z2b : w.heap.size + 1 < w2.heap.size := by omega
      go_wp2_with fail
      refine (K4.out _).mono ?_
      rintro e w3 ⟨rfl, hx3⟩
      obtain ⟨hc'', hf''⟩ := bcell hx3
      have B3 : Below w.heap.size w w3 := B2.trans (hx3.mono (by first | omega | (simp; done) | (simp; omega)))
      go_wp2
      exact bodyPost_ret (v := .tuple #[.agg #[.int .i64 x, .int .i64 y], .bool ok]) (by simp [results, Try.results26, go_sem, hc, hc', hc'', z1, z2]) rfl ⟨rfl, (by repeat (first | with_reducible exact Below.refl _ _ | with_reducible exact B3 | with_reducible refine Below.setCell ?_ (by first | omega | (simp; done) | (simp; omega)) _ | with_reducible refine bDrewN ?_ _ | with_reducible refine Below.drew ?_ | with_reducible refine Below.alloc ?_ (by first | omega | (simp; done) | (simp; omega)) _))⟩

end Go.Proofs.Ythengechoaodcaa
