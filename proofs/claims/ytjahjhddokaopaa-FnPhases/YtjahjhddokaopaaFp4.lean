/-
What is proved: rounding to the nearest float32 in whole numbers: how the model's rounding cuts, and where the infinite one begins.
-/
import Derived.Test.YtjahjhddokaopaaFp2
namespace Go.Proofs.Ytjahjhddokaopaa
set_option maxRecDepth 40000
open Go.RowKit

/-- n by 2 to d, to the nearest, of two as near the even one. -/
def cutE (n d : Nat) : Nat := n / 2 ^ d + (if 2 ^ d < 2 * (n % 2 ^ d) ∨ (2 ^ d = 2 * (n % 2 ^ d) ∧ n / 2 ^ d % 2 = 1) then 1 else 0)
theorem cutE_big {n d : Nat} (h : 2 * n < 2 ^ d) : cutE n d = 0 := by
  unfold cutE
  rw [Nat.div_eq_of_lt (by omega), Nat.mod_eq_of_lt (by omega), if_neg (by omega)]
theorem cut_even (s : Bool) (n d : Nat) : Ieee.Toward.even.cut s n d = cutE n d := by
  unfold Ieee.Toward.cut
  simp only [Nat.one_shiftLeft]
  rcases Nat.le_total d (n.log2 + 2) with h | h
  · rw [Nat.min_eq_left h]
    unfold cutE
    congr 1
    by_cases c : 2 ^ d < 2 * (n % 2 ^ d) ∨ (2 ^ d = 2 * (n % 2 ^ d) ∧ n / 2 ^ d % 2 = 1)
    · rw [if_pos c]
      have : (decide (2 ^ d < 2 * (n % 2 ^ d)) || (2 ^ d == 2 * (n % 2 ^ d) && n / 2 ^ d % 2 == 1)) = true := by simpa using c
      rw [this]; rfl
    · rw [if_neg c]
      have : (decide (2 ^ d < 2 * (n % 2 ^ d)) || (2 ^ d == 2 * (n % 2 ^ d) && n / 2 ^ d % 2 == 1)) = false := by
        rw [Bool.eq_false_iff]; intro g; exact c (by simpa using g)
      rw [this]; rfl
  · rw [Nat.min_eq_right h]
    have l1 : n < 2 ^ (n.log2 + 1) := Nat.lt_log2_self
    have l2 : 2 ^ (n.log2 + 2) = 2 * 2 ^ (n.log2 + 1) := by rw [Nat.pow_succ, Nat.mul_comm]
    have l3 : 2 ^ (n.log2 + 2) ≤ 2 ^ d := Nat.pow_le_pow_right (by decide) h
    rw [cutE_big (by omega), Nat.div_eq_of_lt (by omega), Nat.mod_eq_of_lt (by omega)]
    generalize 2 ^ (n.log2 + 2) = g at *
    have e1 : decide (g < 2 * n) = false := decide_eq_false (by omega)
    have e2 : (g == 2 * n) = false := by simp; omega
    rw [e1, e2]; rfl

/-- The rung of the float32 that is nearest to that of the rung r. -/
def rung32 (r : Nat) : Nat := (kg r - 896) * 8388608 + cutE (mg r) (max 29 (925 - kg r))
theorem near_word {f : Ieee.Format} {s : Bool} {mag : Nat} {place last : Int} {d up kept : Nat} (h0 : mag ≠ 0) (hl : max (place + (mag.log2 : Int) - (f.fractionBits : Int)) f.leastPlace = last) (hd : (last - place).toNat = d) (hu : (place - last).toNat = 0) (hk : Ieee.Toward.even.cut s mag d = kept) (hup : (last - f.leastPlace).toNat = up) : f.nearest s mag place = f.word s (min (up * f.binade + kept) f.infRung) := by
  unfold Ieee.Format.nearest
  rw [if_neg h0]
  simp only [hl, hd, hu, hup]
  rw [Nat.shiftLeft_zero, hk]
theorem log2_52 {m : Nat} (h1 : 4503599627370496 ≤ m) (h2 : m < 9007199254740992) : m.log2 = 52 := by
  rw [Nat.log2_eq_iff (by omega)]
  exact ⟨by simpa using h1, by simpa using h2⟩
theorem s_bin : Ieee.single.binade = 8388608 := by decide
theorem s_inf : Ieee.single.infRung = 2139095040 := by decide
theorem cutE_sub {r d : Nat} (h : r < BIN) (hd : 53 ≤ d) : cutE r d = 0 := cutE_big (Nat.lt_of_lt_of_le (m := 2 ^ 53) (by unfold BIN at h; omega) (Nat.pow_le_pow_right (by decide) hd))
theorem near32 (s : Bool) (r : Nat) (_h : r < INF) : Ieee.single.nearest s (mg r) (-1074 + (kg r : Int)) = Ieee.single.word s (min (rung32 r) 2139095040) := by
  by_cases b : r < BIN
  · have hm : mg r = r := by unfold mg; rw [if_pos b]
    have hk : kg r = 0 := by unfold kg; unfold BIN at *; omega
    obtain ⟨d, hd⟩ : ∃ d : Nat, d = 925 := ⟨_, rfl⟩
    have e0 : rung32 r = 0 := by
      unfold rung32
      have : max 29 (925 - kg r) = d := by omega
      rw [this, hm, hk, cutE_sub b (by omega)]
    rw [e0, hm, hk]
    by_cases z : r = 0
    · rw [z]; cases s <;> decide
    · have lb : r.log2 ≤ 51 := by
        have : r.log2 < 52 := by rw [Nat.log2_lt z]; unfold BIN at b; simpa using b
        omega
      rw [near_word (f := Ieee.single) (s := s) (mag := r) (place := -1074 + ((0 : Nat) : Int)) (last := -149) (d := d) (up := 0) (kept := 0) z (by show max (-1074 + ((0 : Nat) : Int) + (r.log2 : Int) - 23) (-149) = -149; omega) (by omega) (by decide) (by rw [cut_even]; exact cutE_sub b (by omega)) (by decide), s_bin, s_inf]
  · have n1 : 4503599627370496 ≤ mg r := by unfold mg; unfold BIN at *; rw [if_neg b]; omega
    have n2 : mg r < 9007199254740992 := by unfold mg; unfold BIN at *; split <;> omega
    unfold rung32
    rw [near_word (f := Ieee.single) (s := s) (mag := mg r) (place := -1074 + (kg r : Int)) (last := max (-1045 + (kg r : Int)) (-149)) (d := max 29 (925 - kg r)) (up := kg r - 896) (kept := cutE (mg r) (max 29 (925 - kg r))) (by omega) (by rw [log2_52 n1 n2]; show max (-1074 + (kg r : Int) + ((52 : Nat) : Int) - 23) (-149) = _; omega) (by omega) (by omega) (cut_even _ _ _) (by show (max (-1045 + (kg r : Int)) (-149) - (-149)).toNat = _; omega), s_bin, s_inf]

/-- What is below half-way above the greatest float32 keeps below the infinite one. -/
theorem cutE_le {n d q : Nat} (h : 2 * n < (2 * q + 1) * 2 ^ d) : cutE n d ≤ q := by
  unfold cutE
  have p := Nat.two_pow_pos d
  have e := Nat.div_add_mod n (2 ^ d)
  have l := Nat.mod_lt n p
  generalize n % 2 ^ d = b at *
  generalize n / 2 ^ d = a at *
  generalize 2 ^ d = g at *
  have : a ≤ q := by
    rcases Nat.lt_or_ge q a with c | c
    · have : g * (q + 1) ≤ g * a := Nat.mul_le_mul_left g c
      rw [Nat.mul_add] at this
      have e2 : (2 * q + 1) * g = 2 * (g * q) + g := by rw [Nat.add_mul, Nat.mul_comm g q, Nat.mul_assoc]; omega
      omega
    · exact c
  rcases Nat.lt_or_ge a q with c | c
  · split <;> omega
  · have : a = q := by omega
    subst this
    have e2 : (2 * a + 1) * g = 2 * (g * a) + g := by rw [Nat.add_mul, Nat.mul_comm g a, Nat.mul_assoc]; omega
    rw [if_neg (by omega)]; omega

theorem cutE_ge {n d q : Nat} (h : q * 2 ^ d ≤ n) : q ≤ cutE n d := by
  unfold cutE
  exact Nat.le_trans ((Nat.le_div_iff_mul_le (Nat.two_pow_pos d)).2 h) (Nat.le_add_right _ _)
theorem cutE_24 {m d : Nat} (h : m < 9007199254740992) (hd : 29 ≤ d) : cutE m d ≤ 16777216 :=
  cutE_le (Nat.lt_of_lt_of_le (m := (2 * 16777216 + 1) * 2 ^ 29) (by omega) (Nat.mul_le_mul_left _ (Nat.pow_le_pow_right (by decide) hd)))
theorem fits {r : Nat} (h : r < 5183643170835005440) : rung32 r < 2139095040 := by
  have hk : kg r ≤ 1149 := by unfold kg BIN; omega
  have := cutE_24 (mg_lt r) (Nat.le_max_left 29 (925 - kg r))
  unfold rung32
  rcases Nat.lt_or_ge (kg r) 1149 with c | c
  · omega
  · have e : kg r = 1149 := by omega
    have hm : mg r < 9007198986305536 := by unfold kg at e; unfold mg; unfold BIN at *; split <;> omega
    have : cutE (mg r) 29 ≤ 16777215 := cutE_le (by omega)
    rw [e]
    show (1149 - 896) * 8388608 + cutE (mg r) 29 < 2139095040
    omega
theorem fits_not {r : Nat} (h : 5183643170835005440 ≤ r) : 2139095040 ≤ rung32 r := by
  have hk : 1149 ≤ kg r := by unfold kg BIN; omega
  have n1 : 4503599627370496 ≤ mg r := by unfold mg; unfold BIN at *; split <;> omega
  have hd : max 29 (925 - kg r) = 29 := by omega
  unfold rung32
  rw [hd]
  rcases Nat.lt_or_ge 1149 (kg r) with c | c
  · have : 8388608 ≤ cutE (mg r) 29 := cutE_ge (by omega)
    omega
  · have e : kg r = 1149 := by omega
    have hm : 9007198986305536 ≤ mg r := by unfold kg at e; unfold mg; unfold BIN at *; split <;> omega
    have hm2 := mg_lt r
    have : cutE (mg r) 29 = 16777216 := by
      unfold cutE
      rw [show (2 : Nat) ^ 29 = 536870912 from by decide]
      rw [if_pos (by omega)]
      omega
    omega
/-- What the specification's Short has at its end is that rung. -/
theorem spec_end {r n : Nat} {e : Int} (he : e = max (-1045 + (kg r : Int)) (-149)) (hn : n = cutE (mg r) (max 29 (925 - kg r))) :
    n ≤ 16777216 ∧ -149 ≤ e ∧ (8388608 ≤ n ∨ (n < 8388608 ∧ e = -149)) ∧ (rung32 r : Int) = (e + 149) * 8388608 + n := by
  have a := cutE_24 (mg_lt r) (Nat.le_max_left 29 (925 - kg r))
  have hr : rung32 r = (kg r - 896) * 8388608 + n := by rw [hn]; rfl
  refine ⟨by omega, by omega, ?_, by omega⟩
  rcases Nat.lt_or_ge n 8388608 with c | c
  · right
    refine ⟨c, ?_⟩
    rcases Int.lt_or_le (-149) e with g | g
    · exfalso
      have hk : 896 < kg r := by omega
      have hd : max 29 (925 - kg r) = 29 := by omega
      rw [hd] at hn
      have n1 : 4503599627370496 ≤ mg r := by unfold kg at hk; unfold mg; unfold BIN at *; split <;> omega
      have : 8388608 ≤ cutE (mg r) 29 := cutE_ge (by omega)
      omega
    · omega
  · exact .inl c
end Go.Proofs.Ytjahjhddokaopaa
