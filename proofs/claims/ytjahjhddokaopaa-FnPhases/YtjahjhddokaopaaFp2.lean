/-
What is proved: plain facts on the words of float64s without a sign: twice a number, half of one, a whole number's value.
-/
import Derived.Test.YtjahjhddokaopaaFp
namespace Go.Proofs.Ytjahjhddokaopaa
set_option maxRecDepth 40000
open Go.RowKit

/-- The rung of twice a number. -/
def dbl (r : Nat) : Nat := if r < BIN then 2 * r else r + BIN
theorem mg_kg_dbl (r : Nat) : (BIN ≤ r ∧ mg (dbl r) = mg r ∧ kg (dbl r) = kg r + 1) ∨ (r < BIN ∧ mg (dbl r) = 2 * r ∧ kg (dbl r) = 0 ∧ mg r = r ∧ kg r = 0) := by
  by_cases h : r < BIN
  · right
    have e : dbl r = 2 * r := by unfold dbl; rw [if_pos h]
    refine ⟨h, ?_, ?_, ?_, ?_⟩
    · rw [e]; unfold mg; unfold BIN at *; split <;> omega
    · rw [e]; unfold kg BIN; unfold BIN at h; omega
    · unfold mg; rw [if_pos h]
    · unfold kg BIN; unfold BIN at h; omega
  · left
    have e : dbl r = r + BIN := by unfold dbl; rw [if_neg h]
    refine ⟨by omega, ?_, ?_⟩
    · rw [e]; unfold mg; unfold BIN at *; rw [if_neg (by omega), if_neg h]; omega
    · rw [e]; unfold kg BIN; unfold BIN at h; omega
theorem vl_dbl (r : Nat) : vl (dbl r) = 2 * vl r := by
  unfold vl
  rcases mg_kg_dbl r with ⟨_, h1, h2⟩ | ⟨_, h1, h2, h3, h4⟩
  · rw [h1, h2, Nat.pow_succ, ← Nat.mul_assoc, Nat.mul_comm]
  · rw [h1, h2, h3, h4, Nat.mul_assoc]
theorem mg_lt (r : Nat) : mg r < 9007199254740992 := by unfold mg BIN; split <;> omega
theorem mg_norm {r : Nat} (h : BIN ≤ r) : 4503599627370496 ≤ mg r := by unfold mg; unfold BIN at *; rw [if_neg (by omega)]; omega
theorem rung_of (r : Nat) : kg r * BIN + mg r = r := by
  unfold kg mg
  by_cases h : r < BIN
  · rw [if_pos h]; unfold BIN at *; omega
  · rw [if_neg h]; unfold BIN at *; omega

theorem pow_le {a b : Nat} (h : a ≤ b) : 2 ^ a ≤ 2 ^ b := Nat.pow_le_pow_right (by decide) h
theorem mul_pow_le (c : Nat) {a b : Nat} (h : a ≤ b) : c * 2 ^ a ≤ c * 2 ^ b := Nat.mul_le_mul_left _ (pow_le h)
theorem mul_pow_one (c b : Nat) : c ≤ c * 2 ^ b := by have := mul_pow_le c (Nat.zero_le b); rwa [Nat.pow_zero, Nat.mul_one] at this
theorem mul_pow_lt {a b : Nat} (n : Nat) (h : a < b) : a * 2 ^ n < b * 2 ^ n := Nat.mul_lt_mul_of_pos_right h (Nat.two_pow_pos n)
theorem mul_pow_mono {a b : Nat} (n : Nat) (h : a ≤ b) : a * 2 ^ n ≤ b * 2 ^ n := Nat.mul_le_mul_right _ h
theorem log2_mul_pow (A j : Nat) (h : A ≠ 0) : (A * 2 ^ j).log2 = A.log2 + j := by
  have hp : A * 2 ^ j ≠ 0 := Nat.mul_ne_zero h (Nat.ne_of_gt (Nat.two_pow_pos j))
  have a1 := Nat.log2_self_le h
  have a2 := Nat.lt_log2_self (n := A)
  apply (Nat.log2_eq_iff hp).2
  constructor
  · rw [Nat.pow_add]; exact Nat.mul_le_mul_right _ a1
  · rw [Nat.add_right_comm, Nat.pow_add]; exact Nat.mul_lt_mul_of_pos_right a2 (Nat.two_pow_pos j)

theorem cut_exact (s : Bool) (A j : Nat) (h : A ≠ 0) : Ieee.Toward.even.cut s (A * 2 ^ j) j = A := by
  unfold Ieee.Toward.cut
  have l := log2_mul_pow A j h
  have m : min j ((A * 2 ^ j).log2 + 2) = j := by rw [l]; omega
  simp only [m, Nat.one_shiftLeft]
  have hp := Nat.two_pow_pos j
  rw [Nat.mul_div_cancel _ hp, Nat.mul_mod_left]
  have h1 : (decide (2 ^ j < 2 * 0)) = false := by simp
  have h2 : ((2 ^ j : Nat) == 2 * 0) = false := by rw [beq_eq_false_iff_ne]; omega
  rw [h1, h2]; rfl

theorem nearest_exact (s : Bool) {r j : Nat} (hr : r < INF) (p : Int) (hp : p = -1074 + (kg r : Int) - (j : Int)) : FloatKind.f64.format.nearest s (mg r * 2 ^ j) p = FloatKind.f64.format.word s r := by
  subst hp
  unfold Ieee.Format.nearest
  by_cases h0 : mg r = 0
  · have : r = 0 := by
      by_cases h : r < BIN
      · unfold mg at h0; rw [if_pos h] at h0; exact h0
      · have := mg_norm (Nat.not_lt.1 h); omega
    rw [if_pos (by rw [h0, Nat.zero_mul]), this]
  · rw [if_neg (Nat.mul_ne_zero h0 (Nat.ne_of_gt (Nat.two_pow_pos j)))]
    have l := log2_mul_pow (mg r) j h0
    have fb : (FloatKind.f64.format.fractionBits : Int) = 52 := rfl
    have last : max (-1074 + (kg r : Int) - (j : Int) + (((mg r * 2 ^ j).log2 : Nat) : Int) - (FloatKind.f64.format.fractionBits : Int)) FloatKind.f64.format.leastPlace = -1074 + (kg r : Int) := by
      rw [l, fb, fmt_least]
      by_cases h : r < BIN
      · have k0 : kg r = 0 := by unfold kg BIN; unfold BIN at h; omega
        have : (mg r).log2 < 52 := by
          rw [Nat.log2_lt h0]; unfold mg; rw [if_pos h]; unfold BIN at h; omega
        omega
      · have h1 : (mg r).log2 = 52 := (Nat.log2_eq_iff h0).2 ⟨mg_norm (Nat.not_lt.1 h), mg_lt r⟩
        omega
    simp only [last]
    have t1 : (-1074 + (kg r : Int) - (j : Int) - (-1074 + (kg r : Int))).toNat = 0 := by omega
    have t2 : (-1074 + (kg r : Int) - (-1074 + (kg r : Int) - (j : Int))).toNat = j := by omega
    have t3 : (-1074 + (kg r : Int) - FloatKind.f64.format.leastPlace).toNat = kg r := by rw [fmt_least]; omega
    rw [t1, t2, t3, Nat.shiftLeft_zero, cut_exact s (mg r) j h0, fmt_bin, fmt_inf]
    have := rung_of r
    unfold BIN at this
    rw [this, Nat.min_eq_left (by unfold INF at hr; omega)]

def TWO : Nat := 4611686018427387904
theorem read_two : FloatKind.f64.format.read TWO = .number false 4503599627370496 (-51) := by decide
theorem word_pos (r : Nat) : FloatKind.f64.format.word false r = r := rfl

theorem mul_two {r : Nat} (h : r < INF) (h2 : dbl r < INF) : FloatKind.f64.format.mul r TWO = some (dbl r) := by
  simp only [Ieee.Format.mul, read_pos h, read_two, Ieee.Datum.product, Option.map_some, Ieee.Format.write]
  rcases mg_kg_dbl r with ⟨_, h1, h3⟩ | ⟨_, h1, h3, h4, h5⟩
  · have := nearest_exact false (r := dbl r) (j := 52) h2 (-1074 + (kg r : Int) + -51) (by rw [h3]; omega)
    rw [h1] at this
    exact congrArg some (this.trans (word_pos _))
  · have := nearest_exact false (r := dbl r) (j := 51) h2 (-1074 + (kg r : Int) + -51) (by rw [h3, h5]; omega)
    rw [h1] at this
    rw [h4]
    have e : r * 4503599627370496 = 2 * r * 2 ^ 51 := by omega
    rw [e]
    exact congrArg some (this.trans (word_pos _))

theorem quo_two {r : Nat} (h : r < INF) (h2 : dbl r < INF) : FloatKind.f64.format.div (dbl r) TWO = some r := by
  have fd : FloatKind.f64.format.fractionBits + 2 = 54 := rfl
  simp only [Ieee.Format.div, read_pos h2, read_two, Ieee.Datum.quotient, fd]
  rw [if_neg (by decide)]
  have lg : Nat.log2 4503599627370496 = 52 := by decide
  have ll : (mg (dbl r)).log2 ≤ 52 := by
    by_cases z : mg (dbl r) = 0
    · rw [z]; decide
    · have := (Nat.log2_lt z (k := 53)).2 (mg_lt (dbl r)); omega
  simp only [lg]
  obtain ⟨t, ht⟩ : ∃ t, 54 + 52 - (mg (dbl r)).log2 = t + 52 := ⟨54 - (mg (dbl r)).log2, by omega⟩
  have ht2 : 2 ≤ t := by omega
  rw [ht]
  have d1 : mg (dbl r) <<< (t + 52) = mg (dbl r) * 2 ^ t * 4503599627370496 := by rw [Nat.shiftLeft_eq, Nat.pow_add, ← Nat.mul_assoc]
  rw [d1, Nat.mul_div_cancel _ (by decide), Nat.mul_mod_left]
  have b0 : ((0 : Nat) != 0).toNat = 0 := rfl
  simp only [b0, Nat.add_zero, Option.map_some, Ieee.Format.write]
  rcases mg_kg_dbl r with ⟨_, h1, h3⟩ | ⟨_, h1, h3, h4, h5⟩
  · have := nearest_exact false (r := r) (j := t + 1) h (-1074 + (kg (dbl r) : Int) - -51 - ((t + 52 : Nat) : Int) - 1) (by rw [h3]; omega)
    rw [h1]
    have e : 2 * (mg r * 2 ^ t) = mg r * 2 ^ (t + 1) := by
      have h' : mg r * (2 ^ t * 2) = mg r * 2 ^ t * 2 := (Nat.mul_assoc ..).symm
      rw [Nat.pow_succ]; omega
    rw [e]
    exact congrArg some (this.trans (word_pos _))
  · have := nearest_exact false (r := r) (j := t + 2) h (-1074 + (kg (dbl r) : Int) - -51 - ((t + 52 : Nat) : Int) - 1) (by rw [h3, h5]; omega)
    rw [h4] at this
    rw [h1]
    have e : 2 * (2 * r * 2 ^ t) = r * 2 ^ (t + 2) := by
      have h1 : 2 * r * 2 ^ t = 2 * (r * 2 ^ t) := Nat.mul_assoc ..
      have h' : r * (2 ^ t * 2 ^ 2) = r * 2 ^ t * 2 ^ 2 := (Nat.mul_assoc ..).symm
      rw [Nat.pow_add]; omega
    rw [e]
    exact congrArg some (this.trans (word_pos _))

/-! ### The value of a whole number; which word it is. -/
def C52 : Nat := 4841369599423283200
def C53 : Nat := 4845873199050653696
theorem cut_zero (s : Bool) (n d : Nat) : Ieee.Toward.zero.cut s n d = n / 2 ^ d := by
  unfold Ieee.Toward.cut
  simp only [Bool.toNat_false, Nat.add_zero, Nat.one_shiftLeft]
  by_cases h : d ≤ n.log2 + 2
  · rw [Nat.min_eq_left h]
  · rw [Nat.min_eq_right (by omega)]
    have l := Nat.lt_log2_self (n := n)
    have l1 : 2 ^ (n.log2 + 1) ≤ 2 ^ (n.log2 + 2) := Nat.pow_le_pow_right (by decide) (by omega)
    have l2 : 2 ^ (n.log2 + 1) ≤ 2 ^ d := Nat.pow_le_pow_right (by decide) (by omega)
    rw [Nat.div_eq_of_lt (by omega), Nat.div_eq_of_lt (by omega)]
theorem toInt_val {y N E : Nat} (hE : E = 1074) (h : y < C53) (hv : vl y = N * 2 ^ E) (hN : N < 18446744073709551616) : floatToIntVal .f64 y .u64 = some (N : Int) := by
  have hi : y < INF := by unfold C53 at h; unfold INF; omega
  have hk : kg y ≤ E := by unfold kg BIN; unfold C53 at h; omega
  have hm : mg y = N * 2 ^ (E - kg y) := by
    refine Nat.eq_of_mul_eq_mul_right (Nat.two_pow_pos (kg y)) ?_
    rw [Nat.mul_assoc, ← Nat.pow_add, Nat.sub_add_cancel hk]; exact hv
  unfold floatToIntVal
  have e : (FloatKind.f64.decode y).toInt .zero = some (N : Int) := by
    show (FloatKind.f64.format.read y).toInt .zero = some (N : Int)
    rw [read_pos hi]
    simp only [Ieee.Datum.toInt, Ieee.Datum.integral, cut_zero]
    have t1 : (-1074 + (kg y : Int)).toNat = 0 := by omega
    have t2 : (-(-1074 + (kg y : Int))).toNat = E - kg y := by omega
    rw [t1, t2, Nat.shiftLeft_zero, hm, Nat.mul_div_cancel _ (Nat.two_pow_pos _), signed_f, Nat.shiftLeft_zero]
  rw [e]
  have m1 : IntKind.u64.min = 0 := by decide
  have m2 : IntKind.u64.max = 18446744073709551615 := by decide
  rw [m1, m2]
  simp only
  rw [if_pos (by omega)]

theorem binade_eq {a b i j : Nat} (ha : 4503599627370496 ≤ a) (ha' : a < 9007199254740992) (hb : 4503599627370496 ≤ b) (hb' : b < 9007199254740992) (h : a * 2 ^ i = b * 2 ^ j) : a = b ∧ i = j := by
  have key : ∀ {a b i j : Nat}, 4503599627370496 ≤ b → a < 9007199254740992 → i < j → a * 2 ^ i = b * 2 ^ j → False := fun {a b i j} hb ha' hij h => by
    obtain ⟨d, rfl⟩ : ∃ d, j = i + d := ⟨j - i, by omega⟩
    rw [Nat.pow_add, Nat.mul_comm (2 ^ i), ← Nat.mul_assoc] at h
    have := Nat.eq_of_mul_eq_mul_right (Nat.two_pow_pos i) h
    have p2 : 2 ≤ 2 ^ d := by
      have : 2 ^ 1 ≤ 2 ^ d := Nat.pow_le_pow_right (by decide) (by omega)
      omega
    have := Nat.mul_le_mul_left b p2
    omega
  rcases Nat.lt_trichotomy i j with g | g | g
  · exact (key hb ha' g h).elim
  · subst g; exact ⟨Nat.eq_of_mul_eq_mul_right (Nat.two_pow_pos i) h, rfl⟩
  · exact (key ha hb' g h.symm).elim

theorem kg_c52 {y E : Nat} (hE : E = 1074) (h : C52 ≤ y) (h' : y < C53) : kg y = E ∧ BIN ≤ y := by
  unfold kg BIN; unfold C52 at h; unfold C53 at h'; omega
theorem vl_ge {r : Nat} (h : BIN ≤ r) : 4503599627370496 * 2 ^ kg r ≤ vl r := Nat.mul_le_mul_right _ (mg_norm h)
theorem vl_sub {r : Nat} (h : r < BIN) : vl r = r ∧ mg r = r ∧ kg r = 0 := by
  have k : kg r = 0 := by unfold kg BIN; unfold BIN at h; omega
  have m : mg r = r := by unfold mg; rw [if_pos h]
  exact ⟨by unfold vl; rw [k, m]; omega, m, k⟩

/-- Behind the doublings. -/
theorem parts_up_E {r y k E : Nat} (hE : E = 1074) (hy : y < C53) (hk : k ≤ E) (hv : vl y = vl r * 2 ^ k) (he : C52 ≤ y ∨ k = E) : floatToIntVal .f64 y .u64 = some (mg r : Int) ∧ kg r + k = E := by
  have big := mg_lt r
  by_cases h : C52 ≤ y
  · obtain ⟨ky, by1⟩ := kg_c52 hE h hy
    have v1 : vl y = mg y * 2 ^ E := by unfold vl; rw [ky]
    by_cases hr : r < BIN
    · obtain ⟨v, m, k0⟩ := vl_sub hr
      exfalso
      have g := mg_norm by1
      rw [v1, v] at hv
      have q2 : r * 2 ^ k ≤ r * 2 ^ E := mul_pow_le r hk
      have q3 : r * 2 ^ E < mg y * 2 ^ E := mul_pow_lt E (by unfold BIN at hr; omega)
      omega
    · have e : mg y * 2 ^ E = mg r * 2 ^ (kg r + k) := by rw [← v1, hv]; unfold vl; rw [Nat.pow_add, ← Nat.mul_assoc]
      obtain ⟨e1, e2⟩ := binade_eq (mg_norm by1) (mg_lt y) (mg_norm (Nat.not_lt.1 hr)) (mg_lt r) e
      exact ⟨toInt_val hE hy (by rw [v1, e1]) (by omega), e2.symm⟩
  · have hk' : k = E := by rcases he with g | g <;> omega
    rw [hk'] at hv
    have hr : r < BIN := by
      rcases Nat.lt_or_ge r BIN with g | g
      · exact g
      · exfalso
        have a1 := vl_ge g
        have a2 := mul_pow_one 4503599627370496 (kg r)
        have a3 : 4503599627370496 * 2 ^ E ≤ vl r * 2 ^ E := mul_pow_mono E (by omega)
        have a4 := vl_mono (a := y) (b := C52) (by omega)
        have a5 : vl C52 = 4503599627370496 * 2 ^ E := by
          unfold vl
          have e1 : mg C52 = 4503599627370496 := by decide
          have e2 : kg C52 = E := by rw [hE]; decide
          rw [e1, e2]
        omega
    obtain ⟨v, m, k0⟩ := vl_sub hr
    exact ⟨toInt_val hE hy (by rw [hv, v, m]) (by omega), by omega⟩
/-- Behind the halvings. -/
theorem parts_down_E {r y q E : Nat} (hE : E = 1074) (hy : y < C53) (hy' : C52 ≤ y) (hv : vl y * 2 ^ q = vl r) : floatToIntVal .f64 y .u64 = some (mg r : Int) ∧ kg r = E + q := by
  have big := mg_lt r
  obtain ⟨ky, by1⟩ := kg_c52 hE hy' hy
  have v1 : vl y = mg y * 2 ^ E := by unfold vl; rw [ky]
  have g := mg_norm by1
  have p1 : 1 ≤ 2 ^ q := Nat.two_pow_pos q
  have p2 : vl y * 1 ≤ vl y * 2 ^ q := Nat.mul_le_mul_left _ p1
  have p3 : 4503599627370496 * 2 ^ E ≤ vl y := by rw [v1]; exact mul_pow_mono E g
  have p4 := mul_pow_one 4503599627370496 E
  have hr : BIN ≤ r := by
    rcases Nat.lt_or_ge r BIN with g' | g'
    · obtain ⟨v, _, _⟩ := vl_sub g'
      exfalso; unfold BIN at g'; omega
    · exact g'
  have e : mg y * 2 ^ (E + q) = mg r * 2 ^ kg r := by rw [Nat.pow_add, ← Nat.mul_assoc, ← v1, hv]; rfl
  obtain ⟨e1, e2⟩ := binade_eq g (mg_lt y) (mg_norm hr) (mg_lt r) e
  exact ⟨toInt_val hE hy (by rw [v1, e1]) (by omega), e2.symm⟩
theorem parts_up {r y k : Nat} (hy : y < C53) (hk : k ≤ 1074) (hv : vl y = vl r * 2 ^ k) (he : C52 ≤ y ∨ k = 1074) : floatToIntVal .f64 y .u64 = some (mg r : Int) ∧ kg r + k = 1074 := parts_up_E rfl hy hk hv he
theorem parts_down {r y q : Nat} (hy : y < C53) (hy' : C52 ≤ y) (hv : vl y * 2 ^ q = vl r) : floatToIntVal .f64 y .u64 = some (mg r : Int) ∧ kg r = 1074 + q := parts_down_E rfl hy hy' hv
theorem neg_wordS {x : Nat} (hx : x < 18446744073709551616) (hs : sg x = true) : x ^^^ 2 ^ 63 = rg x := by
  have w1 := word_of hx
  rw [hs, if_pos rfl] at w1
  have hr : rg x < 2 ^ 63 := Nat.mod_lt _ (by decide)
  generalize rg x = r at *
  have e : x = 2 ^ 63 + r := w1
  subst e
  apply Nat.eq_of_testBit_eq
  intro i
  rw [Nat.testBit_xor]
  rcases Nat.lt_trichotomy i 63 with h | h | h
  · rw [Nat.testBit_two_pow_add_gt h, Nat.testBit_two_pow_of_ne (by omega)]; simp
  · subst h
    rw [Nat.testBit_two_pow_add_eq, Nat.testBit_two_pow_self, Nat.testBit_lt_two_pow hr]; rfl
  · have p : 2 ^ 64 ≤ 2 ^ i := Nat.pow_le_pow_right (by decide) (by omega)
    rw [Nat.testBit_lt_two_pow (x := 2 ^ 63 + r) (by omega), Nat.testBit_lt_two_pow (x := 2 ^ 63) (by omega), Nat.testBit_lt_two_pow (x := r) (by omega)]; rfl
end Go.Proofs.Ytjahjhddokaopaa
