/-
What is proved: the word of m times a power of 2, where that is a float64; what rounding gives where nothing has to be rounded.
-/
import Derived.Test.YtjahjhddokaopaaFp2
namespace Go.Proofs.Ytjahjhddokaopaa
set_option maxRecDepth 40000
open Go.RowKit

/-- The rung whose value is m times 2 to a (in steps of 2 to -1074), for m below 2 to 53. -/
def rw2 (m a : Nat) : Nat := if a + m.log2 < 52 then m * 2 ^ a else (a + m.log2 - 52) * BIN + m * 2 ^ (52 - m.log2)
theorem rw2_zero (a : Nat) : rw2 0 a = 0 ∨ 52 ≤ a := by
  by_cases h : a < 52
  · left; unfold rw2; rw [if_pos (by rw [Nat.log2_zero]; omega), Nat.zero_mul]
  · right; omega
theorem rw2_vl {m a : Nat} (h0 : 0 < m) (h : m < 9007199254740992) : vl (rw2 m a) = m * 2 ^ a ∧ (rw2 m a < BIN ∨ kg (rw2 m a) = a + m.log2 - 52) := by
  have hm : m ≠ 0 := by omega
  have l1 := Nat.log2_self_le hm
  have l2 := Nat.lt_log2_self (n := m)
  have ll : m.log2 ≤ 52 := by have := (Nat.log2_lt hm (k := 53)).2 h; omega
  unfold rw2
  by_cases c : a + m.log2 < 52
  · rw [if_pos c]
    have b : m * 2 ^ a < BIN := by
      have : m * 2 ^ a < 2 ^ (m.log2 + 1) * 2 ^ a := Nat.mul_lt_mul_of_pos_right l2 (Nat.two_pow_pos a)
      rw [← Nat.pow_add] at this
      have p : 2 ^ (m.log2 + 1 + a) ≤ 2 ^ 52 := pow_le (by omega)
      exact Nat.lt_of_lt_of_le this p
    exact ⟨(vl_sub b).1, .inl b⟩
  · rw [if_neg c]
    generalize hs : 52 - m.log2 = s
    have b1 : BIN ≤ m * 2 ^ s := by
      have : 2 ^ m.log2 * 2 ^ s ≤ m * 2 ^ s := mul_pow_mono s l1
      rw [← Nat.pow_add, show m.log2 + s = 52 by omega] at this
      exact this
    have b2 : m * 2 ^ s < 2 * BIN := by
      have : m * 2 ^ s < 2 ^ (m.log2 + 1) * 2 ^ s := mul_pow_lt s l2
      rw [← Nat.pow_add, show m.log2 + 1 + s = 53 by omega] at this
      exact this
    generalize hk : a + m.log2 - 52 = k
    generalize hM : m * 2 ^ s = M at *
    have e1 : mg (k * BIN + M) = M := by unfold mg; rw [if_neg (by unfold BIN at *; omega)]; unfold BIN at *; omega
    have e2 : kg (k * BIN + M) = k := by unfold kg BIN; unfold BIN at *; omega
    refine ⟨?_, .inr e2⟩
    unfold vl
    rw [e1, e2, ← hM, Nat.mul_assoc, ← Nat.pow_add, show s + k = a by omega]
theorem vl_zero : vl 0 = 0 := by decide
theorem rw2_val (m a : Nat) (h : m < 9007199254740992) : ∃ r, vl r = m * 2 ^ a ∧ (a ≤ 2045 → r < INF) := by
  by_cases h0 : m = 0
  · exact ⟨0, by rw [vl_zero, h0, Nat.zero_mul], fun _ => by decide⟩
  · obtain ⟨e, k⟩ := rw2_vl (a := a) (Nat.pos_of_ne_zero h0) h
    refine ⟨_, e, fun ha => ?_⟩
    have ll : m.log2 ≤ 52 := by have := (Nat.log2_lt h0 (k := 53)).2 h; omega
    rcases k with k | k
    · unfold BIN at k; unfold INF; omega
    · have := mg_lt (rw2 m a)
      have r := rung_of (rw2 m a)
      rw [k] at r
      unfold BIN at r; unfold INF
      omega

/-- Where nothing has to be rounded. -/
theorem nearest_val (s : Bool) {r mag n : Nat} (hr : r < INF) (p : Int) (hp : p = (n : Int) - 1074) (hv : vl r = mag * 2 ^ n) : FloatKind.f64.format.nearest s mag p = FloatKind.f64.format.word s r := by
  subst hp
  by_cases h0 : mag = 0
  · have : r = 0 := vl_inj (by rw [hv, h0, Nat.zero_mul, vl_zero])
    unfold Ieee.Format.nearest
    rw [if_pos h0, this]
  · by_cases c : n ≤ kg r
    · -- more digits than are kept
      obtain ⟨j, hj⟩ : ∃ j, kg r = n + j := ⟨kg r - n, by omega⟩
      have e : mag = mg r * 2 ^ j := by
        refine Nat.eq_of_mul_eq_mul_right (Nat.two_pow_pos n) ?_
        rw [← hv, Nat.mul_assoc, ← Nat.pow_add, Nat.add_comm j n, ← hj]; rfl
      rw [e]
      exact nearest_exact s hr _ (by rw [hj]; omega)
    · obtain ⟨j, hj⟩ : ∃ j, n = kg r + j := ⟨n - kg r, by omega⟩
      have e : mg r = mag * 2 ^ j := by
        refine Nat.eq_of_mul_eq_mul_right (Nat.two_pow_pos (kg r)) ?_
        rw [Nat.mul_assoc, ← Nat.pow_add, Nat.add_comm j, ← hj, ← hv]; rfl
      unfold Ieee.Format.nearest
      rw [if_neg h0]
      have l := log2_mul_pow mag j h0
      rw [← e] at l
      have m0 : mg r ≠ 0 := by rw [e]; exact Nat.mul_ne_zero h0 (Nat.ne_of_gt (Nat.two_pow_pos j))
      have fb : (FloatKind.f64.format.fractionBits : Int) = 52 := rfl
      have last : max ((n : Int) - 1074 + ((mag.log2 : Nat) : Int) - (FloatKind.f64.format.fractionBits : Int)) FloatKind.f64.format.leastPlace = -1074 + (kg r : Int) := by
        rw [fb, fmt_least]
        by_cases h : r < BIN
        · have k0 : kg r = 0 := (vl_sub h).2.2
          have : (mg r).log2 < 52 := by
            rw [Nat.log2_lt m0, (vl_sub h).2.1]; exact h
          omega
        · have h1 : (mg r).log2 = 52 := (Nat.log2_eq_iff m0).2 ⟨mg_norm (Nat.not_lt.1 h), mg_lt r⟩
          omega
      simp only [last]
      have t1 : ((n : Int) - 1074 - (-1074 + (kg r : Int))).toNat = j := by omega
      have t2 : (-1074 + (kg r : Int) - ((n : Int) - 1074)).toNat = 0 := by omega
      have t3 : (-1074 + (kg r : Int) - FloatKind.f64.format.leastPlace).toNat = kg r := by rw [fmt_least]; omega
      have cz := cut_exact s (mg r) 0 m0
      rw [Nat.pow_zero, Nat.mul_one] at cz
      rw [t1, t2, t3, Nat.shiftLeft_eq, ← e, cz, fmt_bin, fmt_inf]
      have := rung_of r
      unfold BIN at this
      rw [this, Nat.min_eq_left (by unfold INF at hr; omega)]
theorem ofInt_val {r m : Nat} {E : Nat} (hE : E = 1074) (hr : r < INF) (hv : vl r = m * 2 ^ E) : floatOfInt .f64 (m : Int) = r := by
  show FloatKind.f64.format.write (.number (decide ((m : Int) < 0)) ((m : Int).natAbs) 0) = r
  have d : decide ((m : Int) < 0) = false := by simp
  rw [d, Int.natAbs_natCast]
  exact (nearest_val false (n := E) hr 0 (by omega) hv).trans (word_pos r)
theorem dbl_of_vl {y z : Nat} (h : vl z = 2 * vl y) : dbl y = z := vl_inj (by rw [vl_dbl, h])
end Go.Proofs.Ytjahjhddokaopaa
