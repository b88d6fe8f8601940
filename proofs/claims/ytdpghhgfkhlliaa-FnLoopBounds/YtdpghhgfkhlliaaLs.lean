/-
What is proved: what a step does to a hold, in numbers.
-/
import Derived.Test.YtdpghhgfkhlliaaDn
import Derived.Test.YtdpghhgfkhlliaaLp
import Derived.Deep.DeepCutAuto
namespace Go.Proofs.Ytdpghhgfkhlliaa
set_option maxRecDepth 40000
open Go.RowKit
set_option linter.unusedVariables false
set_option linter.unusedSimpArgs false

def chgV (on : Bool) (e v : Int) : Int := if on = true then e - v else 0
def freeV (P I D S : Int) (on : Bool) (u v e : Int) : Int := (P * e + I * (u + e) + D * chgV on e v) / S
def outV (L H f : Int) : Int := max L (min f H)
def backV (B x f : Int) : Int := B * (x - f) / 10
def putV (s q : Int) : Int := max (-1000000000) (min (s + q) 1000000000)
def stepB (P I D S L H B : Int) (on : Bool) (u v o want seen : Int) : Bool := okB P I D S L H B on u v o && (inB (-1000000) 1000000 want && inB (-1000000) 1000000 seen)
def nX (P I D S L H B : Int) (on : Bool) (u v o want seen : Int) : Int := if stepB P I D S L H B on u v o want seen = true then outV L H (freeV P I D S on u v (want - seen)) else 0
def nU (P I D S L H B : Int) (on : Bool) (u v o want seen : Int) : Int := if stepB P I D S L H B on u v o want seen = true then putV (u + (want - seen)) (backV B (outV L H (freeV P I D S on u v (want - seen))) (freeV P I D S on u v (want - seen))) else 0
def nV (P I D S L H B : Int) (on : Bool) (u v o want seen : Int) : Int := if stepB P I D S L H B on u v o want seen = true then want - seen else 0
theorem mul_bd {a b A C : Int} (h0 : 0 ≤ a) (h1 : a ≤ A) (h2 : -C ≤ b) (h3 : b ≤ C) : -(A * C) ≤ a * b ∧ a * b ≤ A * C := by
  have hC : 0 ≤ C := by omega
  have t1 : a * b ≤ a * C := Int.mul_le_mul_of_nonneg_left h3 h0
  have t2 : a * C ≤ A * C := Int.mul_le_mul_of_nonneg_right h1 hC
  have t3 : a * (-C) ≤ a * b := Int.mul_le_mul_of_nonneg_left h2 h0
  have t4 : a * (-C) = -(a * C) := Int.mul_neg ..
  omega
theorem div_bd {a b A : Int} (h0 : -A ≤ a) (h1 : a ≤ A) (hb : 1 ≤ b) : -A ≤ a / b ∧ a / b ≤ A := by
  have hA : 0 ≤ A := by omega
  constructor
  · rw [Int.le_ediv_iff_mul_le (by omega)]
    have : A * 1 ≤ A * b := Int.mul_le_mul_of_nonneg_left hb hA
    have : -A * b = -(A * b) := Int.neg_mul ..
    omega
  · have h2 : a / b < A + 1 := by
      rw [Int.ediv_lt_iff_lt_mul (by omega)]
      have : (A + 1) * 1 ≤ (A + 1) * b := Int.mul_le_mul_of_nonneg_left hb (by omega)
      omega
    omega
theorem ok_loop {P I D S L H B : Int} {on : Bool} {u v o : Int} (h : okB P I D S L H B on u v o = true) : (0 ≤ P ∧ P ≤ 1000) ∧ (0 ≤ I ∧ I ≤ 1000) ∧ (0 ≤ D ∧ D ≤ 1000) ∧ (1 ≤ S ∧ S ≤ 1000) ∧ (0 ≤ B ∧ B ≤ 10) ∧ (-1000000 ≤ L ∧ L ≤ H) ∧ H ≤ 1000000 := by
  unfold okB loopB at h
  simp only [Bool.and_eq_true, decide_eq_true_iff] at h
  obtain ⟨⟨h0, h1, h2, h3, h4, h5, h6⟩, _⟩ := h
  exact ⟨inB_yes h0, inB_yes h1, inB_yes h2, inB_yes h3, inB_yes h4, inB_yes h5, h6⟩
theorem ok_hold {P I D S L H B : Int} {on : Bool} {u v o : Int} (h : okB P I D S L H B on u v o = true) : (-1000000000 ≤ u ∧ u ≤ 1000000000) ∧ (-2000000 ≤ v ∧ v ≤ 2000000) := by
  unfold okB at h
  simp only [Bool.and_eq_true] at h
  replace h := h.2
  unfold holdB at h
  cases on
  · simp at h
    omega
  · simp only [if_true, Bool.and_eq_true] at h
    exact ⟨inB_yes h.1, inB_yes h.2.1⟩
/-- All that a step works out is small. -/
structure Small (P I D S L H B : Int) (on : Bool) (u v e d s p1 p2 p3 f x b q : Int) : Prop where
  u1 : -1000000000 ≤ u
  u2 : u ≤ 1000000000
  v1 : -2000000 ≤ v
  v2 : v ≤ 2000000
  ed : chgV on e v = d
  es : u + e = s
  e1 : P * e = p1
  e2 : I * s = p2
  e3 : D * d = p3
  eb : B * (x - f) = b
  l1 : -2000000 ≤ e
  l2 : e ≤ 2000000
  d1 : -4000000 ≤ d
  d2 : d ≤ 4000000
  s1 : -1002000000 ≤ s
  s2 : s ≤ 1002000000
  p11 : -2000000000 ≤ p1
  p12 : p1 ≤ 2000000000
  p21 : -1002000000000 ≤ p2
  p22 : p2 ≤ 1002000000000
  p31 : -4000000000 ≤ p3
  p32 : p3 ≤ 4000000000
  f1 : -1008000000000 ≤ f
  f2 : f ≤ 1008000000000
  x1 : -1000000 ≤ x
  x2 : x ≤ 1000000
  b1 : -11000000000000 ≤ b
  b2 : b ≤ 11000000000000
  q1 : -11000000000000 ≤ q
  q2 : q ≤ 11000000000000
  ef : (p1 + p2 + p3) / S = f
  ex : max L (min f H) = x
  eq : b / 10 = q
theorem small {P I D S L H B : Int} {on : Bool} {u v o : Int} (ok : okB P I D S L H B on u v o = true) {e : Int} (l1 : -2000000 ≤ e) (l2 : e ≤ 2000000) : Small P I D S L H B on u v e (chgV on e v) (u + e) (P * e) (I * (u + e)) (D * chgV on e v) (freeV P I D S on u v e) (outV L H (freeV P I D S on u v e)) (B * (outV L H (freeV P I D S on u v e) - freeV P I D S on u v e)) (backV B (outV L H (freeV P I D S on u v e)) (freeV P I D S on u v e)) := by
  obtain ⟨⟨P1, P2⟩, ⟨I1, I2⟩, ⟨D1, D2⟩, ⟨S1, S2⟩, ⟨B1, B2⟩, ⟨L1, L2⟩, H2⟩ := ok_loop ok
  obtain ⟨⟨u1, u2⟩, ⟨v1, v2⟩⟩ := ok_hold ok
  have dd : -4000000 ≤ chgV on e v ∧ chgV on e v ≤ 4000000 := by unfold chgV; split <;> omega
  obtain ⟨d1, d2⟩ := dd
  have m1 := mul_bd P1 P2 (C := 2000000) l1 l2
  have m2 := mul_bd I1 I2 (b := u + e) (C := 1002000000) (by omega) (by omega)
  have m3 := mul_bd D1 D2 (C := 4000000) d1 d2
  have fb : -1008000000000 ≤ freeV P I D S on u v e ∧ freeV P I D S on u v e ≤ 1008000000000 := by
    unfold freeV
    exact div_bd (by omega) (by omega) S1
  obtain ⟨f1, f2⟩ := fb
  have xb : -1000000 ≤ outV L H (freeV P I D S on u v e) ∧ outV L H (freeV P I D S on u v e) ≤ 1000000 := by unfold outV; omega
  obtain ⟨x1, x2⟩ := xb
  have m4 := mul_bd B1 B2 (b := outV L H (freeV P I D S on u v e) - freeV P I D S on u v e) (C := 1100000000000) (by omega) (by omega)
  have qb := div_bd (a := B * (outV L H (freeV P I D S on u v e) - freeV P I D S on u v e)) (b := 10) (A := 11000000000000) (by omega) (by omega) (by omega)
  exact ⟨u1, u2, v1, v2, rfl, rfl, rfl, rfl, rfl, rfl, l1, l2, d1, d2, by omega, by omega, by omega, by omega, by omega, by omega, by omega, by omega, f1, f2, x1, x2, by omega, by omega, qb.1, qb.2, rfl, rfl, rfl⟩
end Go.Proofs.Ytdpghhgfkhlliaa
