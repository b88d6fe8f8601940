/-
What is proved: plain facts on the words of float64s: what they stand for, how they stand to each other, a number less itself.
-/
import Derived.Test.YtjahjhddokaopaaOpen
namespace Go.Proofs.Ytjahjhddokaopaa
set_option maxRecDepth 40000
open Go.RowKit

/-- The rung of a word: all its bits but the sign's; the rung of the infinities. -/
def rg (x : Nat) : Nat := x % 9223372036854775808
def sg (x : Nat) : Bool := x / 9223372036854775808 % 2 == 1
def INF : Nat := 9218868437227405312
def BIN : Nat := 4503599627370496

theorem fmt_sign : FloatKind.f64.format.signWeight = 9223372036854775808 := by decide
theorem fmt_inf : FloatKind.f64.format.infRung = 9218868437227405312 := by decide
theorem fmt_bin : FloatKind.f64.format.binade = 4503599627370496 := by decide
theorem fmt_least : FloatKind.f64.format.leastPlace = -1074 := by decide

theorem read_sub {x : Nat} (h : rg x < BIN) : FloatKind.f64.format.read x = .number (sg x) (rg x) (-1074) := by
  unfold rg BIN at h
  simp only [Ieee.Format.read, fmt_sign, fmt_bin, fmt_least, h, if_true, sg, rg]
theorem read_norm {x : Nat} (h : BIN ≤ rg x) (k : rg x < INF) : FloatKind.f64.format.read x = .number (sg x) (BIN + rg x % BIN) (-1074 + ((rg x / BIN - 1 : Nat) : Int)) := by
  unfold rg BIN at h; unfold rg INF at k
  simp only [Ieee.Format.read, fmt_sign, fmt_bin, fmt_least, fmt_inf, if_neg (Nat.not_lt.2 h), k, if_true, sg, rg, BIN]
theorem read_inf {x : Nat} (h : rg x = INF) : FloatKind.f64.format.read x = .infinity (sg x) := by
  unfold rg INF at h
  simp only [Ieee.Format.read, fmt_sign, fmt_bin, fmt_inf, h, sg]
  rfl
theorem read_nan {x : Nat} (h : INF < rg x) : FloatKind.f64.format.read x = .nan (sg x) (rg x - INF) := by
  unfold rg INF at h
  simp only [Ieee.Format.read, fmt_sign, fmt_bin, fmt_inf, if_neg (show ¬ x % 9223372036854775808 < 4503599627370496 by omega), if_neg (show ¬ x % 9223372036854775808 < 9218868437227405312 by omega), if_neg (show ¬ x % 9223372036854775808 = 9218868437227405312 by omega), sg, rg, INF]
/-- A number that is known. -/
theorem read_fin {x : Nat} (h : rg x < INF) : ∃ m e, FloatKind.f64.format.read x = .number (sg x) m e ∧ (m = 0 ↔ rg x = 0) := by
  by_cases k : rg x < BIN
  · exact ⟨_, _, read_sub k, Iff.rfl⟩
  · exact ⟨_, _, read_norm (Nat.not_lt.1 k) h, by unfold BIN at *; omega⟩

theorem order_nan_l {x y : Nat} (h : INF < rg x) : FloatKind.f64.format.order x y = none := by
  simp only [Ieee.Format.order, read_nan h, Ieee.Datum.order]
theorem order_nan_r {x y : Nat} (h : INF < rg y) : FloatKind.f64.format.order x y = none := by
  simp only [Ieee.Format.order, read_nan h]
  cases FloatKind.f64.format.read x <;> rfl
theorem order_self {x : Nat} (h : rg x ≤ INF) : FloatKind.f64.format.order x x = some .eq := by
  by_cases k : rg x = INF
  · simp only [Ieee.Format.order, read_inf k, Ieee.Datum.order]
    cases sg x <;> rfl
  · obtain ⟨m, e, hr, _⟩ := read_fin (show rg x < INF by omega)
    simp only [Ieee.Format.order, hr, Ieee.Datum.order]
    simp [compare, compareOfLessAndEq]
theorem nan_iff (x : Nat) : (FloatKind.f64.format.order x x != some .eq) = decide (INF < rg x) := by
  by_cases h : INF < rg x
  · rw [order_nan_l h, decide_eq_true h]; rfl
  · rw [order_self (by omega), decide_eq_false h]; rfl

theorem sub_self_fin {x : Nat} (h : rg x < INF) : FloatKind.f64.format.sub x x = some 0 := by
  obtain ⟨m, e, hr, _⟩ := read_fin h
  have e0 : ∀ n : Nat, Ieee.signed (sg x) m n + Ieee.signed (!sg x) m n = 0 := fun n => by
    cases sg x <;> simp [Ieee.signed] <;> omega
  simp only [Ieee.Format.sub, hr, Ieee.Datum.opposite, Ieee.Datum.sum, Option.map_some, e0]
  cases sg x <;> rfl
theorem sub_self_not {x : Nat} (h : INF ≤ rg x) : FloatKind.f64.format.sub x x = none := by
  by_cases k : rg x = INF
  · simp only [Ieee.Format.sub, read_inf k, Ieee.Datum.opposite, Ieee.Datum.sum]
    cases sg x <;> rfl
  · simp only [Ieee.Format.sub, read_nan (show INF < rg x by omega), Ieee.Datum.opposite, Ieee.Datum.sum]; rfl

/-- What the tape answers where an operation has no number to give: some NaN. -/
def nanA (w : World) (q : Question) : Nat := q.cut (w.tape w.drawn q)
theorem nanA_nan (w : World) (x y : Nat) : INF < rg (nanA w (.nanBits .f64 x y)) := by
  unfold nanA Question.cut rg INF
  simp only
  generalize w.tape w.drawn (Question.nanBits FloatKind.f64 x y) = t
  have ha : t % 2 = 0 ∨ t % 2 = 1 := by omega
  have hb : t / 2 % (2 ^ 52 - 1) < 4503599627370495 := Nat.mod_lt _ (by decide)
  generalize t / 2 % (2 ^ 52 - 1) = b at *
  rcases ha with ha | ha <;> rw [ha] <;> omega
theorem nanA_lt (w : World) (x y : Nat) : nanA w (.nanBits .f64 x y) < 18446744073709551616 := by
  unfold nanA Question.cut
  simp only
  generalize w.tape w.drawn (Question.nanBits FloatKind.f64 x y) = t
  have ha : t % 2 = 0 ∨ t % 2 = 1 := by omega
  have hb : t / 2 % (2 ^ 52 - 1) < 4503599627370495 := Nat.mod_lt _ (by decide)
  generalize t / 2 % (2 ^ 52 - 1) = b at *
  rcases ha with ha | ha <;> rw [ha] <;> omega
theorem run_sub_none {P : Program} (t : TypeId) {x y : Nat} (w : World) (h : FloatKind.f64.format.sub x y = none) : (binOp .sub t (.float .f64 x) (.float .f64 y)).run P w = .ok (.float .f64 (nanA w (.nanBits .f64 x y))) w.drew := by
  simp [binOp, Op.floatArith, h, nanA, Question.forced]
theorem run_quo_none {P : Program} (t : TypeId) {x y : Nat} (w : World) (h : FloatKind.f64.format.div x y = none) : (binOp .quo t (.float .f64 x) (.float .f64 y)).run P w = .ok (.float .f64 (nanA w (.nanBits .f64 x y))) w.drew := by
  simp [binOp, Op.floatArith, h, nanA, Question.forced]
theorem run_sub_some {P : Program} (t : TypeId) {x y r : Nat} (w : World) (h : FloatKind.f64.format.sub x y = some r) : (binOp .sub t (.float .f64 x) (.float .f64 y)).run P w = .ok (.float .f64 r) w := by
  simp [binOp, Op.floatArith, h]
theorem run_quo_some {P : Program} (t : TypeId) {x y r : Nat} (w : World) (h : FloatKind.f64.format.div x y = some r) : (binOp .quo t (.float .f64 x) (.float .f64 y)).run P w = .ok (.float .f64 r) w := by
  simp [binOp, Op.floatArith, h]
theorem run_mul_some {P : Program} (t : TypeId) {x y r : Nat} (w : World) (h : FloatKind.f64.format.mul x y = some r) : (binOp .mul t (.float .f64 x) (.float .f64 y)).run P w = .ok (.float .f64 r) w := by
  simp [binOp, Op.floatArith, h]

/-! ### The words without a sign stand to each other as their numbers do. -/
def mg (r : Nat) : Nat := if r < BIN then r else BIN + r % BIN
def kg (r : Nat) : Nat := r / BIN - 1
theorem read_pos {r : Nat} (h : r < INF) : FloatKind.f64.format.read r = .number false (mg r) (-1074 + (kg r : Int)) := by
  have e : rg r = r := by unfold rg; unfold INF at h; omega
  have s0 : sg r = false := by unfold sg; unfold INF at h; rw [show r / 9223372036854775808 = 0 by omega]; rfl
  by_cases k : r < BIN
  · rw [read_sub (by rw [e]; exact k), e, s0]
    have : kg r = 0 := by unfold kg BIN; unfold BIN at k; omega
    rw [this]; simp [mg, k]
  · rw [read_norm (by rw [e]; omega) (by rw [e]; exact h), e, s0]
    simp [mg, k, kg]
def vl (r : Nat) : Nat := mg r * 2 ^ kg r
theorem vl_succ (r : Nat) : vl r < vl (r + 1) := by
  unfold vl
  by_cases h : r + 1 < BIN
  · have h1 : mg r = r := by unfold mg; rw [if_pos (by omega)]
    have h2 : mg (r + 1) = r + 1 := by unfold mg; rw [if_pos h]
    have h3 : kg r = 0 := by unfold kg BIN; unfold BIN at h; omega
    have h4 : kg (r + 1) = 0 := by unfold kg BIN; unfold BIN at h; omega
    rw [h1, h2, h3, h4]; omega
  · by_cases h0 : r + 1 = BIN
    · have h1 : mg r = r := by unfold mg; rw [if_pos (by omega)]
      have h2 : mg (r + 1) = r + 1 := by rw [h0]; unfold mg; rw [if_neg (by omega)]; unfold BIN; rfl
      have h3 : kg r = 0 := by unfold kg BIN; unfold BIN at h0; omega
      have h4 : kg (r + 1) = 0 := by unfold kg BIN; unfold BIN at h0; omega
      rw [h1, h2, h3, h4]; omega
    · have h1 : mg r = BIN + r % BIN := by unfold mg; rw [if_neg (by omega)]
      have h2 : mg (r + 1) = BIN + (r + 1) % BIN := by unfold mg; rw [if_neg (by omega)]
      by_cases h5 : r % BIN + 1 < BIN
      · have h3 : (r + 1) % BIN = r % BIN + 1 := by unfold BIN at *; omega
        have h4 : kg (r + 1) = kg r := by unfold kg BIN; unfold BIN at *; omega
        rw [h1, h2, h3, h4]
        exact Nat.mul_lt_mul_of_pos_right (by omega) (Nat.two_pow_pos _)
      · have h3 : (r + 1) % BIN = 0 := by unfold BIN at *; omega
        have h4 : kg (r + 1) = kg r + 1 := by unfold kg BIN; unfold BIN at *; omega
        have h6 : r % BIN = BIN - 1 := by unfold BIN at *; omega
        rw [h1, h2, h3, h4, h6, Nat.pow_succ, ← Nat.mul_assoc, Nat.mul_right_comm]
        exact Nat.mul_lt_mul_of_pos_right (by unfold BIN; omega) (Nat.two_pow_pos _)
theorem vl_mono {a b : Nat} (h : a < b) : vl a < vl b := by
  induction b with
  | zero => omega
  | succ n ih =>
    by_cases e : a = n
    · rw [e]; exact vl_succ n
    · exact Nat.lt_trans (ih (by omega)) (vl_succ n)

theorem shifted_lt {A B i j m : Nat} (hi : m ≤ i) (hj : m ≤ j) (h : A * 2 ^ i < B * 2 ^ j) : A <<< (i - m) < B <<< (j - m) := by
  rw [Nat.shiftLeft_eq, Nat.shiftLeft_eq]
  refine Nat.lt_of_mul_lt_mul_right (a := 2 ^ m) ?_
  rw [Nat.mul_assoc, Nat.mul_assoc, ← Nat.pow_add, ← Nat.pow_add, Nat.sub_add_cancel hi, Nat.sub_add_cancel hj]
  exact h

theorem order_pos {a b : Nat} (ha : a < INF) (hb : b < INF) : FloatKind.f64.format.order a b = some (compare a b) := by
  have e1 : (-1074 + (kg a : Int) - min (-1074 + (kg a : Int)) (-1074 + (kg b : Int))).toNat = kg a - min (kg a) (kg b) := by omega
  have e2 : (-1074 + (kg b : Int) - min (-1074 + (kg a : Int)) (-1074 + (kg b : Int))).toNat = kg b - min (kg a) (kg b) := by omega
  simp only [Ieee.Format.order, read_pos ha, read_pos hb, Ieee.Datum.order, e1, e2, Ieee.signed]
  have l1 := Nat.min_le_left (kg a) (kg b)
  have l2 := Nat.min_le_right (kg a) (kg b)
  rcases Nat.lt_trichotomy a b with h | h | h
  · have := shifted_lt l1 l2 (vl_mono h)
    rw [Nat.compare_eq_lt.2 h, Option.some.injEq]
    simp only [Bool.false_eq_true, if_false, compare, compareOfLessAndEq]
    rw [if_pos (by omega)]
  · subst h
    rw [Nat.compare_eq_eq.2 rfl, Option.some.injEq]
    simp [compare, compareOfLessAndEq]
  · have := shifted_lt l2 l1 (vl_mono h)
    rw [Nat.compare_eq_gt.2 h, Option.some.injEq]
    simp only [Bool.false_eq_true, if_false, compare, compareOfLessAndEq]
    rw [if_neg (by omega), if_neg (by omega)]
theorem order_inf_pos {b : Nat} (hb : b < INF) : FloatKind.f64.format.order INF b = some .gt := by
  have h : FloatKind.f64.format.read INF = .infinity false := by decide
  simp only [Ieee.Format.order, h, read_pos hb, Ieee.Datum.order]; rfl
/-- Of a word without its sign: above the greatest number or not. -/
theorem order_max {r : Nat} (h : r ≤ INF) : (FloatKind.f64.format.order r 9218868437227405311 == some .gt) = decide (r = INF) := by
  by_cases k : r = INF
  · rw [k, order_inf_pos (by decide)]; rfl
  · rw [order_pos (by omega) (by decide), decide_eq_false k]
    have : r ≤ 9218868437227405311 := by unfold INF at *; omega
    rcases Nat.lt_or_eq_of_le this with g | g
    · rw [Nat.compare_eq_lt.2 g]; rfl
    · rw [Nat.compare_eq_eq.2 g]; rfl

/-! ### Against nought; below nought; the same. -/
theorem read_zero : FloatKind.f64.format.read 0 = .number false 0 (-1074) := by decide
theorem cmp_lt {a b : Int} (h : a < b) : compare a b = .lt := by simp [compare, compareOfLessAndEq, h]
theorem cmp_gt {a b : Int} (h : b < a) : compare a b = .gt := by
  have h1 : ¬ a < b := by omega
  have h2 : ¬ a = b := by omega
  simp [compare, compareOfLessAndEq, h1, h2]
theorem cmp_eq (a : Int) : compare a a = .eq := by simp [compare, compareOfLessAndEq]
theorem cmp_eq_iff (a b : Int) : compare a b = .eq ↔ a = b := by
  rcases Int.lt_trichotomy a b with h | h | h
  · rw [cmp_lt h]; constructor
    · intro q; cases q
    · intro q; omega
  · subst h; simp
  · rw [cmp_gt h]; constructor
    · intro q; cases q
    · intro q; omega
theorem signed_f (m n : Nat) : Ieee.signed false m n = ((m <<< n : Nat) : Int) := rfl
theorem signed_t (m n : Nat) : Ieee.signed true m n = -((m <<< n : Nat) : Int) := rfl
theorem order_zero {x : Nat} (h : rg x ≤ INF) : FloatKind.f64.format.order x 0 = some (if rg x = 0 then .eq else if sg x = true then .lt else .gt) := by
  by_cases k : rg x = INF
  · rw [if_neg (by rw [k]; decide)]
    simp only [Ieee.Format.order, read_inf k, read_zero, Ieee.Datum.order]
  · obtain ⟨m, e, hr, hm⟩ := read_fin (show rg x < INF by omega)
    simp only [Ieee.Format.order, hr, read_zero, Ieee.Datum.order]
    have hp : 0 < 2 ^ (e - min e (-1074)).toNat := Nat.two_pow_pos _
    generalize (e - min e (-1074)).toNat = n at *
    generalize (-1074 - min e (-1074)).toNat = n'
    have z0 : Ieee.signed false 0 n' = 0 := by rw [signed_f, Nat.zero_shiftLeft]; rfl
    rw [z0, Option.some.injEq]
    by_cases z : rg x = 0
    · rw [if_pos z, hm.2 z]
      have : Ieee.signed (sg x) 0 n = 0 := by cases sg x <;> simp [Ieee.signed]
      rw [this, cmp_eq]
    · rw [if_neg z]
      have m0 : 0 < m := Nat.pos_of_ne_zero fun q => z (hm.1 q)
      have mp : 0 < m <<< n := by rw [Nat.shiftLeft_eq]; exact Nat.mul_pos m0 hp
      cases sg x
      · rw [signed_f, cmp_gt (by omega)]; rfl
      · rw [signed_t, cmp_lt (by omega)]; rfl
theorem word_of {x : Nat} (hx : x < 18446744073709551616) : x = (if sg x = true then 9223372036854775808 else 0) + rg x := by
  unfold sg rg
  by_cases h : x / 9223372036854775808 % 2 = 1
  · rw [if_pos (by simp [h])]; omega
  · rw [if_neg (by simp [h])]; omega
theorem one_by_zero {x : Nat} (hx : x < 18446744073709551616) (h : rg x = 0) : ∃ r, FloatKind.f64.format.div 4607182418800017408 x = some r ∧ (FloatKind.f64.format.order r 0 == some .lt) = sg x := by
  have := word_of hx
  cases s : sg x
  · simp [s, h] at this; subst this; exact ⟨9218868437227405312, by decide, by decide⟩
  · simp [s, h] at this; subst this; exact ⟨18442240474082181120, by decide, by decide⟩

/-- Whether the sign of a number is set. -/
def minusB (x : Nat) : Bool := decide (rg x ≤ INF) && sg x

theorem signed_inj {s : Bool} {A B i j m : Nat} (hi : m ≤ i) (hj : m ≤ j) : (compare (Ieee.signed s A (i - m)) (Ieee.signed s B (j - m)) = .eq) ↔ A * 2 ^ i = B * 2 ^ j := by
  have key : A <<< (i - m) = B <<< (j - m) ↔ A * 2 ^ i = B * 2 ^ j := by
    rw [Nat.shiftLeft_eq, Nat.shiftLeft_eq]
    constructor
    · intro h
      have := congrArg (· * 2 ^ m) h
      simp only [Nat.mul_assoc, ← Nat.pow_add, Nat.sub_add_cancel hi, Nat.sub_add_cancel hj] at this
      exact this
    · intro h
      refine Nat.eq_of_mul_eq_mul_right (Nat.two_pow_pos m) ?_
      rw [Nat.mul_assoc, Nat.mul_assoc, ← Nat.pow_add, ← Nat.pow_add, Nat.sub_add_cancel hi, Nat.sub_add_cancel hj]; exact h
  rw [← key, cmp_eq_iff]
  cases s
  · rw [signed_f, signed_f]; omega
  · rw [signed_t, signed_t]; omega
theorem vl_inj {a b : Nat} (h : vl a = vl b) : a = b := by
  rcases Nat.lt_trichotomy a b with g | g | g
  · have := vl_mono g; omega
  · exact g
  · have := vl_mono g; omega
theorem read_gen {x : Nat} (h : rg x < INF) : FloatKind.f64.format.read x = .number (sg x) (mg (rg x)) (-1074 + (kg (rg x) : Int)) := by
  by_cases k : rg x < BIN
  · rw [read_sub k]
    have : kg (rg x) = 0 := by unfold kg BIN; unfold BIN at k; omega
    rw [this]; simp [mg, k]
  · rw [read_norm (by omega) h]; simp [mg, k, kg]
/-- Two numbers of one sign are the same number just when their words are. -/
theorem order_eq {a b : Nat} (ha : rg a ≤ INF) (hb : rg b ≤ INF) (hs : sg a = sg b) : (FloatKind.f64.format.order a b == some .eq) = decide (rg a = rg b) := by
  by_cases ka : rg a = INF
  · by_cases kb : rg b = INF
    · rw [decide_eq_true (by omega)]
      simp only [Ieee.Format.order, read_inf ka, read_inf kb, Ieee.Datum.order, hs]
      cases sg b <;> rfl
    · rw [decide_eq_false (by omega)]
      simp only [Ieee.Format.order, read_inf ka, read_gen (show rg b < INF by omega), Ieee.Datum.order]
      cases sg a <;> rfl
  · by_cases kb : rg b = INF
    · rw [decide_eq_false (by omega)]
      simp only [Ieee.Format.order, read_inf kb, read_gen (show rg a < INF by omega), Ieee.Datum.order]
      cases sg b <;> rfl
    · have e1 : (-1074 + (kg (rg a) : Int) - min (-1074 + (kg (rg a) : Int)) (-1074 + (kg (rg b) : Int))).toNat = kg (rg a) - min (kg (rg a)) (kg (rg b)) := by omega
      have e2 : (-1074 + (kg (rg b) : Int) - min (-1074 + (kg (rg a) : Int)) (-1074 + (kg (rg b) : Int))).toNat = kg (rg b) - min (kg (rg a)) (kg (rg b)) := by omega
      simp only [Ieee.Format.order, read_gen (show rg a < INF by omega), read_gen (show rg b < INF by omega), Ieee.Datum.order, e1, e2, hs]
      have l1 := Nat.min_le_left (kg (rg a)) (kg (rg b))
      have l2 := Nat.min_le_right (kg (rg a)) (kg (rg b))
      have key := signed_inj (s := sg b) (A := mg (rg a)) (B := mg (rg b)) l1 l2
      rw [Bool.eq_iff_iff, decide_eq_true_iff, beq_iff_eq, Option.some.injEq, key]
      exact ⟨fun h => vl_inj h, fun h => by rw [h]⟩
/-- The bits that are told of a word: all NaNs are one. -/
def bitsB (x : Nat) : Nat := if INF < rg x then 9221120237041090560 else x
def sameB (a b : Nat) : Bool := bitsB a == bitsB b
theorem nan_word : INF < rg 9221120237041090560 := by decide
theorem same_nan {a b : Nat} (ha : INF < rg a) : sameB a b = decide (INF < rg b) := by
  unfold sameB bitsB
  rw [if_pos ha]
  by_cases hb : INF < rg b
  · rw [if_pos hb, decide_eq_true hb]; rfl
  · rw [if_neg hb, decide_eq_false hb, beq_eq_false_iff_ne]
    intro e; rw [← e] at hb; exact hb nan_word
theorem same_comm (a b : Nat) : sameB a b = sameB b a := by unfold sameB; exact Bool.beq_comm
theorem same_num {a b : Nat} (la : a < 18446744073709551616) (lb : b < 18446744073709551616) (ha : rg a ≤ INF) (hb : rg b ≤ INF) : sameB a b = ((FloatKind.f64.format.order a b == some .eq) && (minusB a == minusB b)) := by
  have e1 : bitsB a = a := by unfold bitsB; rw [if_neg (by omega)]
  have e2 : bitsB b = b := by unfold bitsB; rw [if_neg (by omega)]
  have m1 : minusB a = sg a := by unfold minusB; rw [decide_eq_true ha]; rfl
  have m2 : minusB b = sg b := by unfold minusB; rw [decide_eq_true hb]; rfl
  unfold sameB
  rw [e1, e2, m1, m2]
  by_cases hs : sg a = sg b
  · rw [order_eq ha hb hs, hs]
    have w1 := word_of la
    have w2 := word_of lb
    rw [hs] at w1
    rw [Bool.eq_iff_iff]
    simp
    constructor
    · intro h; rw [h]
    · intro h; rw [h] at w1; exact w1.trans w2.symm
  · have : (sg a == sg b) = false := by simpa using hs
    rw [this, Bool.and_false, beq_eq_false_iff_ne]
    intro h; exact hs (by rw [h])
end Go.Proofs.Ytjahjhddokaopaa
