/-
What is proved: the short float of a float32's value has the bits of that float32, in numbers.
-/
import Derived.Test.YtpeelhkmipgacaaFloZ
import Derived.Test.YtpeelhkmipgacaaIShort
namespace Go.Proofs.Ytpeelhkmipgacaa
set_option maxRecDepth 40000
open Go.ChangeShapes Go.WideShapes Go.ChangeAt Go.RowKit
set_option linter.unusedVariables false
set_option linter.unusedSimpArgs false

theorem cutE_ex (A d : Nat) : cutE (A * 2 ^ d) d = A := by
  unfold cutE
  have hp : 0 < 2 ^ d := Nat.two_pow_pos d
  rw [Nat.mul_div_cancel _ hp, Nat.mul_mod_left]
  rw [if_neg (by omega)]
  rfl
theorem rung_of_val {r m k : Nat} (hm : 4503599627370496 ≤ m) (hm' : m < 9007199254740992) (hv : vl r = m * 2 ^ k) : mg r = m ∧ kg r = k := by
  have hr : BIN ≤ r := by
    rcases Nat.lt_or_ge r BIN with h | h
    · have h1 := (vl_sub h).1
      have h2 := mul_pow_one m k
      unfold BIN at h
      omega
    · exact h
  exact binade_eq (mg_norm hr) (mg_lt r) hm hm' hv
theorem short_norm {r f e : Nat} (hf : f < 8388608) (he : 1 ≤ e) (he2 : e ≤ 254) (hv : vl r = (f + 8388608) * 2 ^ (e + 924)) : rung32 r = e * 8388608 + f := by
  have e1 : (f + 8388608) * 2 ^ (e + 924) = ((f + 8388608) * 2 ^ 29) * 2 ^ (e + 895) := by rw [Nat.mul_assoc, ← Nat.pow_add, show 29 + (e + 895) = e + 924 by omega]
  have p29 : 2 ^ 29 = 536870912 := by decide
  obtain ⟨a, b⟩ := rung_of_val (r := r) (m := (f + 8388608) * 2 ^ 29) (k := e + 895) (by rw [p29]; omega) (by rw [p29]; omega) (hv.trans e1)
  unfold rung32
  rw [a, b, show max 29 (925 - (e + 895)) = 29 by omega, cutE_ex]
  clear hv e1 p29 a b
  omega
theorem short_sub {r f E : Nat} (hE : E = 925) (hf : f < 8388608) (hv : vl r = f * 2 ^ E) : rung32 r = f := by
  by_cases h0 : f = 0
  · subst h0
    have : r = 0 := vl_inj (a := r) (b := 0) (by rw [hv, Nat.zero_mul, (vl_sub (show 0 < BIN by decide)).1])
    subst this
    have k0 : kg 0 = 0 := by decide
    have m0 : mg 0 = 0 := by decide
    unfold rung32
    rw [k0, m0, show (0 - 896) * 8388608 = 0 from rfl, Nat.zero_add]
    generalize max 29 (925 - 0) = d
    exact cutE_big (by have := Nat.two_pow_pos d; omega)
  · have l1 := Nat.log2_self_le h0
    have l2 := Nat.lt_log2_self (n := f)
    have l3 : f.log2 < 23 := (Nat.log2_lt h0).2 hf
    generalize f.log2 = l at *
    obtain ⟨q, hq⟩ : ∃ q, q = 52 - l := ⟨_, rfl⟩
    have e1 : f * 2 ^ E = (f * 2 ^ q) * 2 ^ (873 + l) := by rw [Nat.mul_assoc, ← Nat.pow_add, show q + (873 + l) = E by omega]
    have m1 : 2 ^ 52 ≤ f * 2 ^ q := by
      have := Nat.mul_le_mul_right (2 ^ q) l1
      rwa [← Nat.pow_add, show l + q = 52 by omega] at this
    have m2 : f * 2 ^ q < 2 ^ 53 := by
      have := Nat.mul_lt_mul_of_pos_right l2 (Nat.two_pow_pos q)
      rwa [← Nat.pow_add, show l + 1 + q = 53 by omega] at this
    obtain ⟨a, b⟩ := rung_of_val (r := r) (m := f * 2 ^ q) (k := 873 + l) m1 m2 (hv.trans e1)
    unfold rung32
    rw [a, b, show max 29 (925 - (873 + l)) = q by omega, cutE_ex, show 873 + l - 896 = 0 by omega, Nat.zero_mul, Nat.zero_add]
theorem word_parts (s : Bool) {r : Nat} (h : r < 9223372036854775808) : rg ((if s = true then 9223372036854775808 else 0) + r) = r ∧ sg ((if s = true then 9223372036854775808 else 0) + r) = s := by
  unfold rg sg
  cases s
  · simp; omega
  · simp; omega
theorem short_word (s : Bool) {r : Nat} (h : r < 9223372036854775808) : shortB ((if s = true then 9223372036854775808 else 0) + r) = if INF < r then 2143289344 else (if s = true then 2147483648 else 0) + (if r = INF then 2139095040 else min (rung32 r) 2139095040) := by
  obtain ⟨a, b⟩ := word_parts s h
  unfold shortB
  rw [a, b]
theorem short_inf (s : Bool) : shortB ((if s = true then 9223372036854775808 else 0) + 9218868437227405312) = (if s = true then 2147483648 else 0) + (255 * 8388608 + 0) := by
  rw [short_word s (by omega), if_neg (by unfold INF; omega), if_pos (show 9218868437227405312 = INF from rfl)]
theorem short_num (s : Bool) {r q : Nat} (h : r < INF) (hr : rung32 r = q) (hq : q ≤ 2139095040) : shortB ((if s = true then 9223372036854775808 else 0) + r) = (if s = true then 2147483648 else 0) + q := by
  have h63 : r < 9223372036854775808 := by unfold INF at h; omega
  rw [short_word s h63, if_neg (show ¬ INF < r by omega), if_neg (show ¬ r = INF by omega), hr, Nat.min_eq_left hq]
end Go.Proofs.Ytpeelhkmipgacaa
