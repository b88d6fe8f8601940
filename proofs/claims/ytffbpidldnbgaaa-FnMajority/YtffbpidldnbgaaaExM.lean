/-
What is proved: floats that are whole numbers below 2^53: their sums, differences, products and quotients by one are exact.
-/
import Derived.Test.YtffbpidldnbgaaaKey
import Derived.Test.YtffbpidldnbgaaaFp3
namespace Go.Proofs.Ytffbpidldnbgaaa
set_option maxRecDepth 40000
open Go.ChangeShapes Go.WideShapes Go.ChangeAt Go.RowKit
set_option linter.unusedVariables false
set_option linter.unusedSimpArgs false

def WN (E x : Nat) (v : Int) : Prop := x < 18446744073709551616 ∧ rg x < INF ∧ sv x = v * ((2 ^ E : Nat) : Int)
theorem rn_int {E m : Nat} (hE : E = 1074) (h : m < 9007199254740992) : rn (m * 2 ^ E) (-1074) < INF ∧ vl (rn (m * 2 ^ E) (-1074)) = m * 2 ^ E := by
  obtain ⟨r, hv, hr⟩ := rw2_val m E h
  have hr := hr (by omega)
  have e := nearest_val false (mag := m * 2 ^ E) (n := 0) hr (-1074) (by simp) (by rw [Nat.pow_zero, Nat.mul_one]; exact hv)
  rw [nearest_rn] at e
  have := congrArg rg e
  rw [(wd_parts _ (rn_inf _ _)).1, (wd_parts _ (Nat.le_of_lt hr)).1] at this
  rw [this]
  exact ⟨hr, hv⟩
theorem wn_word {E m : Nat} (hE : E = 1074) (s : Bool) (h : m < 9007199254740992) : WN E (FloatKind.f64.format.word s (rn (m * 2 ^ E) (-1074))) (sgn s m) := by
  have k := rn_int hE h
  refine ⟨(word_fin s _ (rn_inf _ _)).2, by rw [(wd_parts _ (rn_inf _ _)).1]; exact k.1, ?_⟩
  unfold sv
  rw [(wd_parts _ (rn_inf _ _)).1, (wd_parts _ (rn_inf _ _)).2, k.2]
  generalize 2 ^ E = P
  unfold sgn
  cases s
  · simp
  · simp [Int.neg_mul]
theorem pow_posI (E : Nat) : (0 : Int) < ((2 ^ E : Nat) : Int) := by
  have := Nat.two_pow_pos E
  omega
theorem sgn_abs {v P : Int} (hP : 0 < P) (z : Bool) : sgn (if v * P = 0 then z else decide (v * P < 0)) v.natAbs = v := by
  by_cases h0 : v = 0
  · subst h0
    unfold sgn
    simp
  · have ne : v * P ≠ 0 := fun q => by rcases Int.mul_eq_zero.1 q with q | q <;> omega
    rw [if_neg ne]
    by_cases h : v < 0
    · rw [decide_eq_true (Int.mul_neg_of_neg_of_pos h hP)]
      unfold sgn
      rw [if_pos rfl]
      omega
    · rw [decide_eq_false (by have := Int.mul_nonneg (show 0 ≤ v by omega) (Int.le_of_lt hP); omega)]
      unfold sgn
      rw [if_neg (by simp)]
      omega
theorem wn_rd {E : Nat} {v : Int} (hE : E = 1074) (z : Bool) (h : v.natAbs < 9007199254740992) : WN E (rdS z (v * ((2 ^ E : Nat) : Int))) v := by
  have k := wn_word hE (if v * ((2 ^ E : Nat) : Int) = 0 then z else decide (v * ((2 ^ E : Nat) : Int) < 0)) h
  rw [sgn_abs (pow_posI E)] at k
  unfold rdS
  rw [Int.natAbs_mul, Int.natAbs_natCast]
  exact k
theorem wn_add {E x y : Nat} {v u : Int} (hE : E = 1074) (hx : WN E x v) (hy : WN E y u) (h : (v + u).natAbs < 9007199254740992) : ∃ r, fRun .add x y = some r ∧ WN E r (v + u) := by
  refine ⟨_, fadd_rd hx.2.1 hy.2.1, ?_⟩
  rw [hx.2.2, hy.2.2, ← Int.add_mul]
  exact wn_rd hE _ h
theorem wn_sub {E x y : Nat} {v u : Int} (hE : E = 1074) (hx : WN E x v) (hy : WN E y u) (h : (v - u).natAbs < 9007199254740992) : ∃ r, fRun .sub x y = some r ∧ WN E r (v - u) := by
  refine ⟨_, fsub_rd hx.2.1 hy.2.1, ?_⟩
  rw [hx.2.2, hy.2.2, ← Int.sub_mul]
  exact wn_rd hE _ h
theorem wn_parts {E x : Nat} {v : Int} (hx : WN E x v) : vl (rg x) = v.natAbs * 2 ^ E ∧ sgn (sg x) v.natAbs = v := by
  have h := hx.2.2
  have e : (sv x).natAbs = vl (rg x) := by
    unfold sv
    split <;> simp
  have e2 : vl (rg x) = v.natAbs * 2 ^ E := by
    rw [← e, h, Int.natAbs_mul, Int.natAbs_natCast]
  refine ⟨e2, ?_⟩
  unfold sv at h
  rw [e2] at h
  have hP := pow_posI E
  generalize 2 ^ E = P at h hP
  rw [Int.natCast_mul] at h
  revert h
  unfold sgn
  cases sg x <;> intro h
  · simp only [Bool.false_eq_true, if_false] at h ⊢
    exact Int.eq_of_mul_eq_mul_right (Int.ne_of_gt hP) h
  · simp only [if_true] at h ⊢
    rw [← Int.neg_mul] at h
    exact Int.eq_of_mul_eq_mul_right (Int.ne_of_gt hP) h
theorem sgn_mul (s t : Bool) (a b : Nat) : sgn (s ^^ t) (a * b) = sgn s a * sgn t b := by
  unfold sgn
  cases s <;> cases t <;> simp [Int.neg_mul, Int.mul_neg]
theorem wn_of {E : Nat} {v : Int} (hE : E = 1074) (h : v.natAbs < 9007199254740992) : WN E (FloatKind.f64.nearest v) v := by
  have e : FloatKind.f64.nearest v = FloatKind.f64.format.word (decide (v < 0)) (rn v.natAbs 0) := write_num _ _ _
  have s := rn_scale v.natAbs E 0
  have z : (0 : Int) - (E : Int) = -1074 := by omega
  rw [z] at s
  rw [e, ← s]
  have w := wn_word hE (decide (v < 0)) h
  have q : sgn (decide (v < 0)) v.natAbs = v := by
    unfold sgn
    by_cases c : v < 0
    · rw [decide_eq_true c, if_pos rfl]; omega
    · rw [decide_eq_false c, if_neg (by simp)]; omega
  rw [q] at w
  exact w
def ONE : Nat := 4607182418800017408
theorem read_one : FloatKind.f64.format.read ONE = .number false 4503599627370496 (-52) := by decide
theorem quo_one {x : Nat} (lx : x < 18446744073709551616) (h : rg x < INF) : fRun .quo x ONE = some x := by
  show FloatKind.f64.format.div x ONE = some x
  have fd : FloatKind.f64.format.fractionBits + 2 = 54 := rfl
  simp only [Ieee.Format.div, read_gen h, read_one, Ieee.Datum.quotient, fd]
  rw [if_neg (by decide)]
  have lg : Nat.log2 4503599627370496 = 52 := by decide
  have ll : (mg (rg x)).log2 ≤ 52 := by
    by_cases z : mg (rg x) = 0
    · rw [z]; decide
    · have := (Nat.log2_lt z (k := 53)).2 (mg_lt (rg x)); omega
  simp only [lg]
  obtain ⟨t, ht⟩ : ∃ t, 54 + 52 - (mg (rg x)).log2 = t + 52 := ⟨54 - (mg (rg x)).log2, by omega⟩
  rw [ht]
  have d1 : mg (rg x) <<< (t + 52) = mg (rg x) * 2 ^ t * 4503599627370496 := by rw [Nat.shiftLeft_eq, Nat.pow_add, ← Nat.mul_assoc]
  rw [d1, Nat.mul_div_cancel _ (by decide), Nat.mul_mod_left]
  have b0 : ((0 : Nat) != 0).toNat = 0 := rfl
  simp only [b0, Nat.add_zero, Option.map_some, Ieee.Format.write]
  have := nearest_exact (sg x) (r := rg x) (j := t + 1) h (-1074 + (kg (rg x) : Int) - -52 - ((t + 52 : Nat) : Int) - 1) (by omega)
  have e : 2 * (mg (rg x) * 2 ^ t) = mg (rg x) * 2 ^ (t + 1) := by
    have h' : mg (rg x) * (2 ^ t * 2) = mg (rg x) * 2 ^ t * 2 := (Nat.mul_assoc ..).symm
    rw [Nat.pow_succ]; omega
  rw [e, Bool.xor_false]
  exact congrArg some (this.trans (word_self lx).symm)
theorem wn_eq {E x y : Nat} {v : Int} (hx : WN E x v) (hy : WN E y v) : FloatKind.f64.format.order x y = some .eq := by
  rw [order_fin hx.2.1 hy.2.1, hx.2.2, hy.2.2, cmp_eq]
theorem wn_fl {E x : Nat} {v : Int} (hx : WN E x v) : Fl x (some x) := ⟨hx.1, .inl ⟨Nat.le_of_lt hx.2.1, rfl⟩⟩
theorem wn_zero (E : Nat) : WN E 0 0 := by
  refine ⟨by decide, by decide, ?_⟩
  rw [Int.zero_mul]
  unfold sv
  rw [show sg 0 = false from rfl, show rg 0 = 0 from rfl, vl_nil]
  rfl
end Go.Proofs.Ytffbpidldnbgaaa
