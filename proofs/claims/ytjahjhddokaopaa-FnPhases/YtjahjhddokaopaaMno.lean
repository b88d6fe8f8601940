/-
What is proved: rounding to the nearest float64 never turns the order round.
-/
import Derived.Test.YtjahjhddokaopaaFp4
namespace Go.Proofs.Ytjahjhddokaopaa
set_option maxRecDepth 40000
open Go.ChangeShapes Go.WideShapes Go.ChangeAt Go.RowKit
set_option linter.unusedVariables false
set_option linter.unusedSimpArgs false

theorem cutE_mono {a b d : Nat} (h : a ≤ b) : cutE a d ≤ cutE b d := by
  unfold cutE
  have hp : 0 < 2 ^ d := Nat.two_pow_pos d
  generalize 2 ^ d = P at *
  have h1 : a / P ≤ b / P := Nat.div_le_div_right h
  have ha := Nat.div_add_mod a P
  have hb := Nat.div_add_mod b P
  have la := Nat.mod_lt a hp
  have lb := Nat.mod_lt b hp
  by_cases e : a / P = b / P
  · rw [e] at ha ⊢
    have hr : a % P ≤ b % P := by omega
    generalize b / P = q at *
    split
    · rename_i c
      rw [if_pos (by omega)]
      omega
    · omega
  · split <;> split <;> omega
theorem cutE_scale (a d t : Nat) : cutE (a * 2 ^ t) (d + t) = cutE a d := by
  unfold cutE
  have ht : 0 < 2 ^ t := Nat.two_pow_pos t
  rw [Nat.pow_add, Nat.mul_div_mul_right _ _ ht, Nat.mul_mod_mul_right]
  have e1 : (2 ^ d * 2 ^ t < 2 * (a % 2 ^ d * 2 ^ t)) ↔ (2 ^ d < 2 * (a % 2 ^ d)) := by
    rw [← Nat.mul_assoc]
    exact Nat.mul_lt_mul_right ht
  have e2 : (2 ^ d * 2 ^ t = 2 * (a % 2 ^ d * 2 ^ t)) ↔ (2 ^ d = 2 * (a % 2 ^ d)) := by
    rw [← Nat.mul_assoc]
    exact ⟨fun h => Nat.eq_of_mul_eq_mul_right ht h, fun h => congrArg (· * 2 ^ t) h⟩
  simp only [e1, e2]
theorem cutE_up {a d q : Nat} (h : a ≤ q * 2 ^ d) : cutE a d ≤ q := cutE_le (by
  have hp : 0 < 2 ^ d := Nat.two_pow_pos d
  have e : (2 * q + 1) * 2 ^ d = 2 * (q * 2 ^ d) + 2 ^ d := by rw [Nat.add_mul, Nat.one_mul, Nat.mul_assoc]
  rw [e]
  omega)
/-- The place of the last digit that is kept. -/
def lastP (m : Nat) (p : Int) : Int := max (p + (m.log2 : Int) - 52) (-1074)
/-- The rung that a magnitude is rounded to. -/
def rn (m : Nat) (p : Int) : Nat := if m = 0 then 0 else min ((lastP m p + 1074).toNat * BIN + cutE (m * 2 ^ (p - lastP m p).toNat) (lastP m p - p).toNat) INF
theorem nearest_rn (s : Bool) (m : Nat) (p : Int) : FloatKind.f64.format.nearest s m p = FloatKind.f64.format.word s (rn m p) := by
  unfold Ieee.Format.nearest rn
  by_cases h : m = 0
  · rw [if_pos h, if_pos h]
  · rw [if_neg h, if_neg h, fmt_bin, fmt_inf, fmt_least]
    have fb : (FloatKind.f64.format.fractionBits : Int) = 52 := by decide
    simp only [fb, cut_even, Nat.shiftLeft_eq]
    have e : ∀ x : Int, (x - -1074).toNat = (x + 1074).toNat := fun x => by omega
    rw [e]
    rfl
theorem rn_inf (m : Nat) (p : Int) : rn m p ≤ INF := by
  unfold rn
  split
  · exact Nat.zero_le _
  · exact Nat.min_le_right _ _
theorem rn_scale (m k : Nat) (p : Int) : rn (m * 2 ^ k) (p - k) = rn m p := by
  unfold rn
  by_cases h : m = 0
  · subst h; simp
  · have h2 : m * 2 ^ k ≠ 0 := Nat.mul_ne_zero h (by have := Nat.two_pow_pos k; omega)
    rw [if_neg h, if_neg h2]
    have hl : lastP (m * 2 ^ k) (p - k) = lastP m p := by
      unfold lastP
      rw [log2_mul_pow m k h]
      congr 1
      omega
    rw [hl]
    generalize lastP m p = l at *
    obtain ⟨t, h1, h3⟩ : ∃ t, k + (p - k - l).toNat = (p - l).toNat + t ∧ (l - (p - k)).toNat = (l - p).toNat + t := by
      by_cases c : l ≤ p - k
      · exact ⟨0, by omega, by omega⟩
      · by_cases c2 : l ≤ p
        · exact ⟨(l - (p - k)).toNat, by omega, by omega⟩
        · exact ⟨k, by omega, by omega⟩
    rw [Nat.mul_assoc, ← Nat.pow_add, h1, h3, Nat.pow_add, ← Nat.mul_assoc, cutE_scale]
theorem log2_mono {m n : Nat} (h0 : m ≠ 0) (h : m ≤ n) : m.log2 ≤ n.log2 := by
  have hn : n ≠ 0 := by omega
  exact (Nat.le_log2 hn).2 (Nat.le_trans (Nat.log2_self_le h0) h)
theorem rn_mono {m n : Nat} {p : Int} (h : m ≤ n) : rn m p ≤ rn n p := by
  by_cases hm : m = 0
  · subst hm; unfold rn; rw [if_pos rfl]; exact Nat.zero_le _
  have hn : n ≠ 0 := by omega
  unfold rn
  rw [if_neg hm, if_neg hn]
  have hl := log2_mono hm h
  have key : (lastP m p + 1074).toNat * BIN + cutE (m * 2 ^ (p - lastP m p).toNat) (lastP m p - p).toNat ≤ (lastP n p + 1074).toNat * BIN + cutE (n * 2 ^ (p - lastP n p).toNat) (lastP n p - p).toNat := by
    by_cases e : lastP m p = lastP n p
    · rw [e]
      exact Nat.add_le_add_left (cutE_mono (Nat.mul_le_mul_right _ h)) _
    · have hL : lastP m p < lastP n p := by unfold lastP at *; omega
      have en : lastP n p = p + (n.log2 : Int) - 52 ∧ -1074 < lastP n p := by unfold lastP at *; omega
      have em : p + (m.log2 : Int) - 52 ≤ lastP m p ∧ -1074 ≤ lastP m p := by unfold lastP; omega
      -- n keeps at least a whole binade
      have kn : 2 ^ 52 ≤ cutE (n * 2 ^ (p - lastP n p).toNat) (lastP n p - p).toNat := by
        refine cutE_ge ?_
        have l1 := Nat.log2_self_le hn
        have l2 := Nat.mul_le_mul_right (2 ^ (p - lastP n p).toNat) l1
        rw [← Nat.pow_add] at l2 ⊢
        refine Nat.le_trans (Nat.pow_le_pow_right (by decide) ?_) l2
        omega
      -- m keeps at most two
      have km : cutE (m * 2 ^ (p - lastP m p).toNat) (lastP m p - p).toNat ≤ 2 ^ 53 := by
        refine cutE_up ?_
        have l1 := Nat.le_of_lt (Nat.lt_log2_self (n := m))
        have l2 := Nat.mul_le_mul_right (2 ^ (p - lastP m p).toNat) l1
        rw [← Nat.pow_add] at l2 ⊢
        refine Nat.le_trans l2 (Nat.pow_le_pow_right (by decide) ?_)
        omega
      have b1 : 2 ^ 52 = BIN := by decide
      have b2 : 2 ^ 53 = 2 * BIN := by decide
      rw [b1] at kn
      rw [b2] at km
      generalize cutE (m * 2 ^ (p - lastP m p).toNat) (lastP m p - p).toNat = x at *
      generalize cutE (n * 2 ^ (p - lastP n p).toNat) (lastP n p - p).toNat = y at *
      have hz : (lastP m p + 1074).toNat + 1 ≤ (lastP n p + 1074).toNat := by omega
      have hm2 := Nat.mul_le_mul_right BIN hz
      rw [Nat.add_mul, Nat.one_mul] at hm2
      omega
  omega
/-- Two magnitudes at two places. -/
def leV (m : Nat) (p : Int) (n : Nat) (q : Int) : Prop := m * 2 ^ (p - min p q).toNat ≤ n * 2 ^ (q - min p q).toNat
theorem rn_at (m : Nat) {p b : Int} (h : b ≤ p) : rn m p = rn (m * 2 ^ (p - b).toNat) b := by
  have := rn_scale m (p - b).toNat p
  rw [show p - ((p - b).toNat : Int) = b by omega] at this
  exact this.symm
theorem rn_le {m n : Nat} {p q : Int} (h : leV m p n q) : rn m p ≤ rn n q := by
  rw [rn_at m (b := min p q) (by omega), rn_at n (b := min p q) (by omega)]
  exact rn_mono h
end Go.Proofs.Ytjahjhddokaopaa
