/-
What is proved: the signed value of a float64 in units of the least one, and how two stand to each other by it.
-/
import Derived.Test.YtjahjhddokaopaaMno
import Derived.Test.YtjahjhddokaopaaFO
namespace Go.Proofs.Ytjahjhddokaopaa
set_option maxRecDepth 40000
open Go.ChangeShapes Go.WideShapes Go.ChangeAt Go.RowKit
set_option linter.unusedVariables false
set_option linter.unusedSimpArgs false

def sv (x : Nat) : Int := if sg x = true then -(vl (rg x) : Int) else (vl (rg x) : Int)
theorem cmp_scale {x y p : Int} (hp : 0 < p) : compare (x * p) (y * p) = compare x y := by
  rcases Int.lt_trichotomy x y with h | h | h
  · rw [cmp_lt h, cmp_lt (Int.mul_lt_mul_of_pos_right h hp)]
  · subst h; rw [cmp_eq, cmp_eq]
  · rw [cmp_gt h, cmp_gt (Int.mul_lt_mul_of_pos_right h hp)]
theorem signed_sv {x m : Nat} (hm : m ≤ kg (rg x)) : Ieee.signed (sg x) (mg (rg x)) (kg (rg x) - m) * ((2 ^ m : Nat) : Int) = sv x := by
  have e : (mg (rg x) <<< (kg (rg x) - m)) * 2 ^ m = vl (rg x) := by
    rw [Nat.shiftLeft_eq, Nat.mul_assoc, ← Nat.pow_add, Nat.sub_add_cancel hm]; rfl
  unfold sv
  cases sg x
  · rw [signed_f, if_neg (by decide), ← e]; simp
  · rw [signed_t, if_pos rfl, ← e, Int.neg_mul]; simp
theorem order_fin {a b : Nat} (ha : rg a < INF) (hb : rg b < INF) : FloatKind.f64.format.order a b = some (compare (sv a) (sv b)) := by
  have e1 : (-1074 + (kg (rg a) : Int) - min (-1074 + (kg (rg a) : Int)) (-1074 + (kg (rg b) : Int))).toNat = kg (rg a) - min (kg (rg a)) (kg (rg b)) := by omega
  have e2 : (-1074 + (kg (rg b) : Int) - min (-1074 + (kg (rg a) : Int)) (-1074 + (kg (rg b) : Int))).toNat = kg (rg b) - min (kg (rg a)) (kg (rg b)) := by omega
  simp only [Ieee.Format.order, read_gen ha, read_gen hb, Ieee.Datum.order, e1, e2]
  rw [← cmp_scale (p := ((2 ^ min (kg (rg a)) (kg (rg b)) : Nat) : Int)) (by have := Nat.two_pow_pos (min (kg (rg a)) (kg (rg b))); omega), signed_sv (Nat.min_le_left _ _), signed_sv (Nat.min_le_right _ _)]
theorem vl_le {a b : Nat} (h : a ≤ b) : vl a ≤ vl b := by
  rcases Nat.lt_or_eq_of_le h with g | g
  · exact Nat.le_of_lt (vl_mono g)
  · rw [g]; exact Nat.le_refl _
end Go.Proofs.Ytjahjhddokaopaa
