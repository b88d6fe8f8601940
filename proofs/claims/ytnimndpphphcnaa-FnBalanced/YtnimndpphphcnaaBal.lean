/-
What is proved: the balance of a gas in whole numbers: the greatest move for which the left side is at most the right one is there, and the sides' difference falls with the move.
-/
import Derived.Test.YtnimndpphphcnaaRight2
namespace Go.Proofs.Ytnimndpphphcnaa
set_option maxRecDepth 40000
open Go.RowKit

abbrev inG (x : Int) : Prop := 0 ≤ x ∧ x ≤ 10000
abbrev inK (x : Int) : Prop := 1 ≤ x ∧ x ≤ 1000
def overV (a b c d n e x : Int) : Int := n * (a - x) * (b - x) - (c + x) * (d + x) * e
/-- X is the greatest move. -/
def Bal (a b c d n e X : Int) : Prop := -min c d ≤ X ∧ X ≤ min a b ∧ 0 ≤ overV a b c d n e X ∧ ∀ y, X < y → y ≤ min a b → overV a b c d n e y < 0
theorem over_mono {a b c d n e x y : Int} (hn : 1 ≤ n) (he : 1 ≤ e) (hx : -min c d ≤ x) (hxy : x ≤ y) (hy : y ≤ min a b) : overV a b c d n e y ≤ overV a b c d n e x := by
  unfold overV
  have h1 : (a - y) * (b - y) ≤ (a - x) * (b - x) := Int.mul_le_mul (by omega) (by omega) (by omega) (by omega)
  have h2 : (c + x) * (d + x) ≤ (c + y) * (d + y) := Int.mul_le_mul (by omega) (by omega) (by omega) (by omega)
  have h3 : n * ((a - y) * (b - y)) ≤ n * ((a - x) * (b - x)) := Int.mul_le_mul_of_nonneg_left h1 (by omega)
  have h4 : (c + x) * (d + x) * e ≤ (c + y) * (d + y) * e := Int.mul_le_mul_of_nonneg_right h2 (by omega)
  have e1 : n * (a - y) * (b - y) = n * ((a - y) * (b - y)) := Int.mul_assoc ..
  have e2 : n * (a - x) * (b - x) = n * ((a - x) * (b - x)) := Int.mul_assoc ..
  rw [e1, e2]
  omega
/-- The products of a move within its bounds. -/
theorem over_prods {a b c d n e x : Int} (ha : inG a) (hb : inG b) (hc : inG c) (hd : inG d) (hn : inK n) (he : inK e) (hx : -min c d ≤ x) (hy : x ≤ min a b) :
    0 ≤ n * (a - x) ∧ n * (a - x) ≤ 20000000 ∧ 0 ≤ n * (a - x) * (b - x) ∧ n * (a - x) * (b - x) ≤ 400000000000 ∧ 0 ≤ (c + x) * (d + x) ∧ (c + x) * (d + x) ≤ 400000000 ∧ 0 ≤ (c + x) * (d + x) * e ∧ (c + x) * (d + x) * e ≤ 400000000000 := by
  have m1 : n * (a - x) ≤ 1000 * 20000 := Int.mul_le_mul (by omega) (by omega) (by omega) (by omega)
  have m0 : 0 ≤ n * (a - x) := Int.mul_nonneg (by omega) (by omega)
  have m2 : n * (a - x) * (b - x) ≤ (1000 * 20000) * 20000 := Int.mul_le_mul m1 (by omega) (by omega) (by omega)
  have m3 : 0 ≤ n * (a - x) * (b - x) := Int.mul_nonneg m0 (by omega)
  have m4 : (c + x) * (d + x) ≤ 20000 * 20000 := Int.mul_le_mul (by omega) (by omega) (by omega) (by omega)
  have m5 : 0 ≤ (c + x) * (d + x) := Int.mul_nonneg (by omega) (by omega)
  have m6 : (c + x) * (d + x) * e ≤ (20000 * 20000) * 1000 := Int.mul_le_mul m4 (by omega) (by omega) (by omega)
  have m7 : 0 ≤ (c + x) * (d + x) * e := Int.mul_nonneg m5 (by omega)
  omega
theorem over_least {a b c d n e : Int} (ha : inG a) (hb : inG b) (hc : inG c) (hd : inG d) (hn : inK n) : 0 ≤ overV a b c d n e (-min c d) := by
  have m0 : 0 ≤ n * (a - -min c d) := Int.mul_nonneg (by omega) (by omega)
  have m3 : 0 ≤ n * (a - -min c d) * (b - -min c d) := Int.mul_nonneg m0 (by omega)
  have z : (c + -min c d) * (d + -min c d) = 0 := by
    rcases Int.le_total c d with h | h
    · rw [Int.min_eq_left h]; rw [show c + -c = 0 by omega, Int.zero_mul]
    · rw [Int.min_eq_right h]; rw [show d + -d = 0 by omega, Int.mul_zero]
  unfold overV
  rw [z, Int.zero_mul]; omega
theorem bal_down {a b c d n e : Int} (h0 : 0 ≤ overV a b c d n e (-min c d)) : ∀ (m : Nat) (h : Int), h = -min c d + m → h ≤ min a b → (∀ y, h < y → y ≤ min a b → overV a b c d n e y < 0) → ∃ X, Bal a b c d n e X
  | 0, h, e1, e2, e3 => ⟨h, by omega, e2, by rw [e1]; simpa using h0, e3⟩
  | m + 1, h, e1, e2, e3 => by
    rcases Int.lt_or_le (overV a b c d n e h) 0 with s | s
    · refine bal_down h0 m (h - 1) (by omega) (by omega) fun y y1 y2 => ?_
      by_cases q : y = h
      · rw [q]; exact s
      · exact e3 y (by omega) y2
    · exact ⟨h, by omega, e2, s, e3⟩
theorem bal_exists {a b c d n e : Int} (ha : inG a) (hb : inG b) (hc : inG c) (hd : inG d) (hn : inK n) : ∃ X, Bal a b c d n e X :=
  bal_down (over_least ha hb hc hd hn) (min a b + min c d).toNat (min a b) (by omega) (by omega) fun y y1 y2 => by omega
theorem Bal.stop {a b c d n e X x : Int} (h : Bal a b c d n e X) (h1 : X ≤ x) (h2 : x ≤ min a b) (h3 : 0 ≤ overV a b c d n e x) : x = X := by
  rcases Int.lt_or_le X x with s | s
  · have := h.2.2.2 x s h2; omega
  · omega
theorem Bal.on {a b c d n e X x : Int} (h : Bal a b c d n e X) (h1 : X ≤ x) (h3 : overV a b c d n e x < 0) : X ≤ x - 1 := by
  by_cases q : x = X
  · subst q; have := h.2.2.1; omega
  · omega
/-- Halving: what is met keeps below the greatest, what is not met is above it. -/
theorem Bal.low {a b c d n e X x : Int} (h : Bal a b c d n e X) (h2 : x ≤ min a b) (h3 : 0 ≤ overV a b c d n e x) : x ≤ X := by
  rcases Int.lt_or_le X x with s | s
  · have := h.2.2.2 x s h2; omega
  · exact s
theorem Bal.high {a b c d n e X x : Int} (h : Bal a b c d n e X) (hn : 1 ≤ n) (he : 1 ≤ e) (h1 : -min c d ≤ x) (h3 : overV a b c d n e x < 0) : X ≤ x - 1 := by
  rcases Int.lt_or_le x X with s | s
  · have := over_mono (a := a) (b := b) (c := c) (d := d) hn he h1 (Int.le_of_lt s) h.2.1
    have := h.2.2.1
    omega
  · exact h.on s h3
def balB (a b c d n e : Int) : Bool := decide (inG a ∧ inG b ∧ inG c ∧ inG d ∧ inK n ∧ inK e) && rightB n e
end Go.Proofs.Ytnimndpphphcnaa
