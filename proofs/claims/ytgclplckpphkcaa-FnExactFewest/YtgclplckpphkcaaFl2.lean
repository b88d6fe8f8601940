/-
What is proved: a bit of a number, as Go asks for it; a power of two.
-/
import Derived.Laws.BitsLemmas
import Derived.Deep.RegionHeld3
import Derived.Deep.DeepCutAuto
import Derived.Test.YtgclplckpphkcaaOpen
namespace Go.Proofs.Ytgclplckpphkcaa
set_option maxRecDepth 40000
open Go.ChangeShapes Go.WideShapes Go.ChangeAt Go.RowKit
set_option linter.unusedVariables false
set_option linter.unusedSimpArgs false

theorem wrapsX (n : Int) (h₀ : 0 ≤ n) (h₁ : n < 2 ^ 62) : IntKind.i64.wrap n = n := by rw [IntKind.wrap_i64]; omega
theorem div_castX (f n : Nat) : ((f : Int) / 2 ^ n) = ((f / 2 ^ n : Nat) : Int) := by simp
theorem bitX (f n : Nat) (hf : f < 2 ^ 62) : (bits .and .i64 ((f : Int) / 2 ^ n) 1 == (1 : Int)) = f.testBit n := by
  have h1 := (bits_nat .i64 62 (by decide) wrapsX (f / 2 ^ n) 1 (Nat.lt_of_le_of_lt (Nat.div_le_self _ _) hf) (by decide)).1
  rw [div_castX, show (1 : Int) = ((1 : Nat) : Int) from rfl, h1, Nat.and_one_is_mod, Nat.testBit_eq_decide_div_mod_eq]
  rcases Nat.mod_two_eq_zero_or_one (f / 2 ^ n) with e | e <;> rw [e] <;> rfl
theorem pow_castX (n : Nat) : ((2 : Int) ^ n) = ((2 ^ n : Nat) : Int) := by simp
theorem wpowX (x : Nat) (hx : x ≤ 14) : wrap64 ((2 : Int) ^ x) = ((2 ^ x : Nat) : Int) := by
  have hp : 2 ^ x ≤ 2 ^ 14 := Nat.pow_le_pow_right (by decide) hx
  have hq : ((2 ^ x : Nat) : Int) ≤ 16384 := by have : ((2 ^ x : Nat) : Int) ≤ ((2 ^ 14 : Nat) : Int) := Int.ofNat_le.2 hp; simpa using this
  have hz : (0 : Int) ≤ ((2 ^ x : Nat) : Int) := Int.natCast_nonneg _
  rw [pow_castX, IntWalk.wrap64_in _ ⟨by omega, by omega⟩]
end Go.Proofs.Ytgclplckpphkcaa
