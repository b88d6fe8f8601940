/-
What is proved: the sum of bytes in numbers, and what one round of it is in bits.
-/
import Derived.Test.YtkocbklkiehdiaaByM
import Derived.Laws.BitsAllLaws
namespace Go.Proofs.Ytkocbklkiehdiaa
set_option maxRecDepth 40000
open Go.RowKit
set_option linter.unusedVariables false
set_option linter.unusedSimpArgs false

def crcStep (x : Nat) : Nat := if 32768 ≤ x then (2 * x - 65536) ^^^ 4129 else 2 * x
def crcR : Nat → Nat → Nat
  | 0, x => x
  | k + 1, x => crcStep (crcR k x)
def crcB (x : Nat) (v : Int) : Nat := x ^^^ (v.toNat * 256)
def crcN (V : Nat → Int) : Nat → Nat
  | 0 => 65535
  | k + 1 => crcR 8 (crcB (crcN V k) (V k))
def crcV (n : Nat) (V : Nat → Int) : Int := if (n : Int) ≤ 1000 then (crcN V n : Int) else -1
theorem crcStep_lt {x : Nat} (h : x < 65536) : crcStep x < 65536 := by
  unfold crcStep
  split
  · exact Nat.xor_lt_two_pow (n := 16) (by omega) (by decide)
  · omega
theorem crcR_lt {x : Nat} (h : x < 65536) : ∀ k, crcR k x < 65536
  | 0 => h
  | k + 1 => crcStep_lt (crcR_lt h k)
theorem crcB_lt {x : Nat} {v : Int} (h : x < 65536) (h0 : 0 ≤ v) (h1 : v < 256) : crcB x v < 65536 := Nat.xor_lt_two_pow (n := 16) (by omega) (by omega)
theorem crcN_lt {V : Nat → Int} : ∀ n, (∀ j, j < n → 0 ≤ V j ∧ V j < 256) → crcN V n < 65536
  | 0, _ => by show 65535 < 65536; decide
  | k + 1, h => crcR_lt (crcB_lt (crcN_lt k (fun j hj => h j (by omega))) (h k (by omega)).1 (h k (by omega)).2) 8
theorem xor64 (a b : Nat) (ha : a < 65536) (hb : b < 65536) : bits .xor .i64 (a : Int) (b : Int) = ((a ^^^ b : Nat) : Int) := by
  have hx : a ^^^ b < 2 ^ 16 := Nat.xor_lt_two_pow (by omega) (by omega)
  show IntKind.i64.wrap ((BitVec.ofInt 64 (a : Int) ^^^ BitVec.ofInt 64 (b : Int)).toNat : Int) = _
  rw [BitVec.toNat_xor, ofInt_u64 a (by omega), ofInt_u64 b (by omega), IntKind.wrap_i64]
  all_goals omega
theorem byte64 {x : Nat} {v : Int} (h : x < 65536) (h0 : 0 ≤ v) (h1 : v < 256) : bits .xor .i64 (x : Int) (v * 256) = (crcB x v : Int) := by
  obtain ⟨a, rfl⟩ : ∃ a : Nat, v = (a : Int) := ⟨v.toNat, by omega⟩
  have e : ((a : Int) * 256) = ((a * 256 : Nat) : Int) := by omega
  rw [e, xor64 x (a * 256) h (by omega)]
  unfold crcB
  rw [Int.toNat_natCast]
theorem hi64 {x : Nat} (h : 32768 ≤ x) (hx : x < 65536) : bits .xor .i64 ((x : Int) * 2 - 65536) 4129 = (crcStep x : Int) := by
  have e : ((x : Int) * 2 - 65536) = ((2 * x - 65536 : Nat) : Int) := by omega
  have e2 : (4129 : Int) = ((4129 : Nat) : Int) := rfl
  rw [e, e2, xor64 (2 * x - 65536) 4129 (by omega) (by decide)]
  unfold crcStep
  rw [if_pos h]
theorem lo64 {x : Nat} (h : ¬ 32768 ≤ x) : ((x : Int) * 2) = (crcStep x : Int) := by
  unfold crcStep
  rw [if_neg h]
  omega
theorem byte16 {x : Nat} {v : Int} (h : x < 65536) (h0 : 0 ≤ v) (h1 : v < 256) : bits .xor .u16 (x : Int) (v * 256) = (crcB x v : Int) := by
  obtain ⟨a, rfl⟩ : ∃ a : Nat, v = (a : Int) := ⟨v.toNat, by omega⟩
  have e : ((a : Int) * 256) = ((a * 256 : Nat) : Int) := by omega
  rw [e, u16_xor_nat x (a * 256) h (by omega)]
  unfold crcB
  rw [Int.toNat_natCast]
theorem top16 {x : Nat} (hx : x < 65536) : bits .and .u16 (x : Int) 32768 = ((x / 32768 % 2 * 32768 : Nat) : Int) := by
  have e2 : (32768 : Int) = ((32768 : Nat) : Int) := rfl
  rw [e2, u16_and_nat x 32768 hx (by decide)]
  have := nat_bit 15 x
  exact congrArg Int.ofNat this
theorem hi16 {x : Nat} (h : 32768 ≤ x) (hx : x < 65536) : bits .xor .u16 (IntKind.u16.wrap ((x : Int) * 2)) 4129 = (crcStep x : Int) := by
  rw [IntKind.wrap_u16, show ((x : Int) * 2) % 65536 = (x : Int) * 2 - 65536 by omega]
  have e : ((x : Int) * 2 - 65536) = ((2 * x - 65536 : Nat) : Int) := by omega
  have e2 : (4129 : Int) = ((4129 : Nat) : Int) := rfl
  rw [e, e2, u16_xor_nat (2 * x - 65536) 4129 (by omega) (by decide)]
  unfold crcStep
  rw [if_pos h]
end Go.Proofs.Ytkocbklkiehdiaa
