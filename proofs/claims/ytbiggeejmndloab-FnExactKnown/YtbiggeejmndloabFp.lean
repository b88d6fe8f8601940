/-
What is proved: plain facts on the words of float64s: what they stand for, how they stand to each other, a number less itself.
-/
import Derived.Test.YtbiggeejmndloabOpen
namespace Go.Proofs.Ytbiggeejmndloab
open Go.RowKit

/-- The rung of a word: all its bits but the sign's; the rung of the infinities. -/
def rg (x : Nat) : Nat := x % 9223372036854775808
def sg (x : Nat) : Bool := x / 9223372036854775808 % 2 == 1
def INF : Nat := 9218868437227405312
def BIN : Nat := 4503599627370496

theorem fmt_sign : FloatKind.f64.format.signWeight = 9223372036854775808 := by decide
theorem fmt_inf : FloatKind.f64.format.infRung = 9218868437227405312 := by decide
theorem fmt_bin : FloatKind.f64.format.binade = 4503599627370496 := by decide
theorem fmt_least : FloatKind.f64.format.leastPlace = -1074 := by decide

theorem read_sub {x : Nat} (h : rg x < BIN) : FloatKind.f64.format.read x = .number (sg x) (rg x) (-1074) := by
  unfold rg BIN at h
  simp only [Ieee.Format.read, fmt_sign, fmt_bin, fmt_least, h, if_true, sg, rg]
theorem read_norm {x : Nat} (h : BIN ≤ rg x) (k : rg x < INF) : FloatKind.f64.format.read x = .number (sg x) (BIN + rg x % BIN) (-1074 + ((rg x / BIN - 1 : Nat) : Int)) := by
  unfold rg BIN at h; unfold rg INF at k
  simp only [Ieee.Format.read, fmt_sign, fmt_bin, fmt_least, fmt_inf, if_neg (Nat.not_lt.2 h), k, if_true, sg, rg, BIN]
theorem read_inf {x : Nat} (h : rg x = INF) : FloatKind.f64.format.read x = .infinity (sg x) := by
  unfold rg INF at h
  simp only [Ieee.Format.read, fmt_sign, fmt_bin, fmt_inf, h, sg]
  rfl
theorem read_nan {x : Nat} (h : INF < rg x) : FloatKind.f64.format.read x = .nan (sg x) (rg x - INF) := by
  unfold rg INF at h
  simp only [Ieee.Format.read, fmt_sign, fmt_bin, fmt_inf, if_neg (show ¬ x % 9223372036854775808 < 4503599627370496 by omega), if_neg (show ¬ x % 9223372036854775808 < 9218868437227405312 by omega), if_neg (show ¬ x % 9223372036854775808 = 9218868437227405312 by omega), sg, rg, INF]
/-- A number that is known. -/
theorem read_fin {x : Nat} (h : rg x < INF) : ∃ m e, FloatKind.f64.format.read x = .number (sg x) m e ∧ (m = 0 ↔ rg x = 0) := by
  by_cases k : rg x < BIN
  · exact ⟨_, _, read_sub k, Iff.rfl⟩
  · exact ⟨_, _, read_norm (Nat.not_lt.1 k) h, by unfold BIN at *; omega⟩

theorem order_nan_l {x y : Nat} (h : INF < rg x) : FloatKind.f64.format.order x y = none := by
  simp only [Ieee.Format.order, read_nan h, Ieee.Datum.order]
theorem order_nan_r {x y : Nat} (h : INF < rg y) : FloatKind.f64.format.order x y = none := by
  simp only [Ieee.Format.order, read_nan h]
  cases FloatKind.f64.format.read x <;> rfl
theorem order_self {x : Nat} (h : rg x ≤ INF) : FloatKind.f64.format.order x x = some .eq := by
  by_cases k : rg x = INF
  · simp only [Ieee.Format.order, read_inf k, Ieee.Datum.order]
    cases sg x <;> rfl
  · obtain ⟨m, e, hr, _⟩ := read_fin (show rg x < INF by omega)
    simp only [Ieee.Format.order, hr, Ieee.Datum.order]
    simp [compare, compareOfLessAndEq]
theorem nan_iff (x : Nat) : (FloatKind.f64.format.order x x != some .eq) = decide (INF < rg x) := by
  by_cases h : INF < rg x
  · rw [order_nan_l h, decide_eq_true h]; rfl
  · rw [order_self (by omega), decide_eq_false h]; rfl

theorem sub_self_fin {x : Nat} (h : rg x < INF) : FloatKind.f64.format.sub x x = some 0 := by
  obtain ⟨m, e, hr, _⟩ := read_fin h
  have e0 : ∀ n : Nat, Ieee.signed (sg x) m n + Ieee.signed (!sg x) m n = 0 := fun n => by
    cases sg x <;> simp [Ieee.signed] <;> omega
  simp only [Ieee.Format.sub, hr, Ieee.Datum.opposite, Ieee.Datum.sum, Option.map_some, e0]
  cases sg x <;> rfl
theorem sub_self_not {x : Nat} (h : INF ≤ rg x) : FloatKind.f64.format.sub x x = none := by
  by_cases k : rg x = INF
  · simp only [Ieee.Format.sub, read_inf k, Ieee.Datum.opposite, Ieee.Datum.sum]
    cases sg x <;> rfl
  · simp only [Ieee.Format.sub, read_nan (show INF < rg x by omega), Ieee.Datum.opposite, Ieee.Datum.sum]; rfl

/-- What the tape answers where an operation has no number to give: some NaN. -/
def nanA (w : World) (q : Question) : Nat := q.cut (w.tape w.drawn q)
theorem nanA_nan (w : World) (x y : Nat) : INF < rg (nanA w (.nanBits .f64 x y)) := by
  unfold nanA Question.cut rg INF
  simp only
  generalize w.tape w.drawn (Question.nanBits FloatKind.f64 x y) = t
  have ha : t % 2 = 0 ∨ t % 2 = 1 := by omega
  have hb : t / 2 % (2 ^ 52 - 1) < 4503599627370495 := Nat.mod_lt _ (by decide)
  generalize t / 2 % (2 ^ 52 - 1) = b at *
  rcases ha with ha | ha <;> rw [ha] <;> omega
theorem nanA_lt (w : World) (x y : Nat) : nanA w (.nanBits .f64 x y) < 18446744073709551616 := by
  unfold nanA Question.cut
  simp only
  generalize w.tape w.drawn (Question.nanBits FloatKind.f64 x y) = t
  have ha : t % 2 = 0 ∨ t % 2 = 1 := by omega
  have hb : t / 2 % (2 ^ 52 - 1) < 4503599627370495 := Nat.mod_lt _ (by decide)
  generalize t / 2 % (2 ^ 52 - 1) = b at *
  rcases ha with ha | ha <;> rw [ha] <;> omega
theorem run_sub_none {P : Program} (t : TypeId) {x y : Nat} (w : World) (h : FloatKind.f64.format.sub x y = none) : (binOp .sub t (.float .f64 x) (.float .f64 y)).run P w = .ok (.float .f64 (nanA w (.nanBits .f64 x y))) w.drew := by
  simp [binOp, Op.floatArith, h, nanA, Question.forced]
theorem run_quo_none {P : Program} (t : TypeId) {x y : Nat} (w : World) (h : FloatKind.f64.format.div x y = none) : (binOp .quo t (.float .f64 x) (.float .f64 y)).run P w = .ok (.float .f64 (nanA w (.nanBits .f64 x y))) w.drew := by
  simp [binOp, Op.floatArith, h, nanA, Question.forced]
theorem run_sub_some {P : Program} (t : TypeId) {x y r : Nat} (w : World) (h : FloatKind.f64.format.sub x y = some r) : (binOp .sub t (.float .f64 x) (.float .f64 y)).run P w = .ok (.float .f64 r) w := by
  simp [binOp, Op.floatArith, h]
theorem run_quo_some {P : Program} (t : TypeId) {x y r : Nat} (w : World) (h : FloatKind.f64.format.div x y = some r) : (binOp .quo t (.float .f64 x) (.float .f64 y)).run P w = .ok (.float .f64 r) w := by
  simp [binOp, Op.floatArith, h]
theorem run_mul_some {P : Program} (t : TypeId) {x y r : Nat} (w : World) (h : FloatKind.f64.format.mul x y = some r) : (binOp .mul t (.float .f64 x) (.float .f64 y)).run P w = .ok (.float .f64 r) w := by
  simp [binOp, Op.floatArith, h]

/-! ### The words without a sign stand to each other as their numbers do. -/
def mg (r : Nat) : Nat := if r < BIN then r else BIN + r % BIN
def kg (r : Nat) : Nat := r / BIN - 1
theorem read_pos {r : Nat} (h : r < INF) : FloatKind.f64.format.read r = .number false (mg r) (-1074 + (kg r : Int)) := by
  have e : rg r = r := by unfold rg; unfold INF at h; omega
  have s0 : sg r = false := by unfold sg; unfold INF at h; rw [show r / 9223372036854775808 = 0 by omega]; rfl
  by_cases k : r < BIN
  · rw [read_sub (by rw [e]; exact k), e, s0]
    have : kg r = 0 := by unfold kg BIN; unfold BIN at k; omega
    rw [this]; simp [mg, k]
  · rw [read_norm (by rw [e]; omega) (by rw [e]; exact h), e, s0]
    simp [mg, k, kg]
def vl (r : Nat) : Nat := mg r * 2 ^ kg r
theorem vl_succ (r : Nat) : vl r < vl (r + 1) := by
  unfold vl
  by_cases h : r + 1 < BIN
  · have h1 : mg r = r := by unfold mg; rw [if_pos (by omega)]
    have h2 : mg (r + 1) = r + 1 := by unfold mg; rw [if_pos h]
    have h3 : kg r = 0 := by unfold kg BIN; unfold BIN at h; omega
    have h4 : kg (r + 1) = 0 := by unfold kg BIN; unfold BIN at h; omega
    rw [h1, h2, h3, h4]; omega
  · by_cases h0 : r + 1 = BIN
    · have h1 : mg r = r := by unfold mg; rw [if_pos (by omega)]
      have h2 : mg (r + 1) = r + 1 := by rw [h0]; unfold mg; rw [if_neg (by omega)]; unfold BIN; rfl
      have h3 : kg r = 0 := by unfold kg BIN; unfold BIN at h0; omega
      have h4 : kg (r + 1) = 0 := by unfold kg BIN; unfold BIN at h0; omega
      rw [h1, h2, h3, h4]; omega
    · have h1 : mg r = BIN + r % BIN := by unfold mg; rw [if_neg (by omega)]
      have h2 : mg (r + 1) = BIN + (r + 1) % BIN := by unfold mg; rw [if_neg (by omega)]
      by_cases h5 : r % BIN + 1 < BIN
      · have h3 : (r + 1) % BIN = r % BIN + 1 := by unfold BIN at *; omega
        have h4 : kg (r + 1) = kg r := by unfold kg BIN; unfold BIN at *; omega
        rw [h1, h2, h3, h4]
        exact Nat.mul_lt_mul_of_pos_right (by omega) (Nat.two_pow_pos _)
      · have h3 : (r + 1) % BIN = 0 := by unfold BIN at *; omega
        have h4 : kg (r + 1) = kg r + 1 := by unfold kg BIN; unfold BIN at *; omega
        have h6 : r % BIN = BIN - 1 := by unfold BIN at *; omega
        rw [h1, h2, h3, h4, h6, Nat.pow_succ, ← Nat.mul_assoc, Nat.mul_right_comm]
        exact Nat.mul_lt_mul_of_pos_right (by unfold BIN; omega) (Nat.two_pow_pos _)
theorem vl_mono {a b : Nat} (h : a < b) : vl a < vl b := by
  induction b with
  | zero => omega
  | succ n ih =>
    by_cases e : a = n
    · rw [e]; exact vl_succ n
    · exact Nat.lt_trans (ih (by omega)) (vl_succ n)

theorem shifted_lt {A B i j m : Nat} (hi : m ≤ i) (hj : m ≤ j) (h : A * 2 ^ i < B * 2 ^ j) : A <<< (i - m) < B <<< (j - m) := by
  rw [Nat.shiftLeft_eq, Nat.shiftLeft_eq]
  refine Nat.lt_of_mul_lt_mul_right (a := 2 ^ m) ?_
  rw [Nat.mul_assoc, Nat.mul_assoc, ← Nat.pow_add, ← Nat.pow_add, Nat.sub_add_cancel hi, Nat.sub_add_cancel hj]
  exact h

theorem order_pos {a b : Nat} (ha : a < INF) (hb : b < INF) : FloatKind.f64.format.order a b = some (compare a b) := by
  have e1 : (-1074 + (kg a : Int) - min (-1074 + (kg a : Int)) (-1074 + (kg b : Int))).toNat = kg a - min (kg a) (kg b) := by omega
  have e2 : (-1074 + (kg b : Int) - min (-1074 + (kg a : Int)) (-1074 + (kg b : Int))).toNat = kg b - min (kg a) (kg b) := by omega
  simp only [Ieee.Format.order, read_pos ha, read_pos hb, Ieee.Datum.order, e1, e2, Ieee.signed]
  have l1 := Nat.min_le_left (kg a) (kg b)
  have l2 := Nat.min_le_right (kg a) (kg b)
  rcases Nat.lt_trichotomy a b with h | h | h
  · have := shifted_lt l1 l2 (vl_mono h)
    rw [Nat.compare_eq_lt.2 h, Option.some.injEq]
    simp only [Bool.false_eq_true, if_false, compare, compareOfLessAndEq]
    rw [if_pos (by omega)]
  · subst h
    rw [Nat.compare_eq_eq.2 rfl, Option.some.injEq]
    simp [compare, compareOfLessAndEq]
  · have := shifted_lt l2 l1 (vl_mono h)
    rw [Nat.compare_eq_gt.2 h, Option.some.injEq]
    simp only [Bool.false_eq_true, if_false, compare, compareOfLessAndEq]
    rw [if_neg (by omega), if_neg (by omega)]
theorem order_inf_pos {b : Nat} (hb : b < INF) : FloatKind.f64.format.order INF b = some .gt := by
  have h : FloatKind.f64.format.read INF = .infinity false := by decide
  simp only [Ieee.Format.order, h, read_pos hb, Ieee.Datum.order]; rfl
/-- Of a word without its sign: above the greatest number or not. -/
theorem order_max {r : Nat} (h : r ≤ INF) : (FloatKind.f64.format.order r 9218868437227405311 == some .gt) = decide (r = INF) := by
  by_cases k : r = INF
  · rw [k, order_inf_pos (by decide)]; rfl
  · rw [order_pos (by omega) (by decide), decide_eq_false k]
    have : r ≤ 9218868437227405311 := by unfold INF at *; omega
    rcases Nat.lt_or_eq_of_le this with g | g
    · rw [Nat.compare_eq_lt.2 g]; rfl
    · rw [Nat.compare_eq_eq.2 g]; rfl
end Go.Proofs.Ytbiggeejmndloab
