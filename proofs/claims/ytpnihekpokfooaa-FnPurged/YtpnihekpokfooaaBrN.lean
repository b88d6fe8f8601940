/-
What is proved: a burner's run, in numbers.
-/
import Derived.Test.YtpnihekpokfooaaBu
namespace Go.Proofs.Ytpnihekpokfooaa
set_option maxRecDepth 40000
open Go.RowKit
set_option linter.unusedVariables false
set_option linter.unusedSimpArgs false

def itR (p : Int × Int × Int) (V : Nat → Bool) : Nat → Int × Int × Int
  | 0 => p
  | k + 1 => nextV (itR p V k).1 (itR p V k).2.1 (itR p V k).2.2 (V (k * 6)) (V (k * 6 + 1)) (V (k * 6 + 2)) (V (k * 6 + 3)) (V (k * 6 + 4)) (V (k * 6 + 5))
theorem itR_ok {p : Int × Int × Int} {V : Nat → Bool} (h : okB p.1 p.2.1 p.2.2 = true) : ∀ k, okB (itR p V k).1 (itR p V k).2.1 (itR p V k).2.2 = true
  | 0 => h
  | k + 1 => next_ok (itR_ok h k) _ _ _ _ _ _
def outU (p : Int × Int × Int) (V : Nat → Bool) (j : Nat) : Bool := if j % 3 = 0 then fanB (itR p V (j / 3 + 1)).1 else if j % 3 = 1 then sparkB (itR p V (j / 3 + 1)).1 else valveB (itR p V (j / 3 + 1)).1
theorem outU0 (p : Int × Int × Int) (V : Nat → Bool) (k : Nat) : outU p V (k * 3) = fanB (itR p V (k + 1)).1 := by
  unfold outU; rw [if_pos (by omega), show k * 3 / 3 = k by omega]
theorem outU1 (p : Int × Int × Int) (V : Nat → Bool) (k : Nat) : outU p V (k * 3 + 1) = sparkB (itR p V (k + 1)).1 := by
  unfold outU; rw [if_neg (by omega), if_pos (by omega), show (k * 3 + 1) / 3 = k by omega]
theorem outU2 (p : Int × Int × Int) (V : Nat → Bool) (k : Nat) : outU p V (k * 3 + 2) = valveB (itR p V (k + 1)).1 := by
  unfold outU; rw [if_neg (by omega), if_neg (by omega), show (k * 3 + 2) / 3 = k by omega]
def rgB (p : Int × Int × Int) (n : Nat) : Bool := okB p.1 p.2.1 p.2.2 && decide (n ≤ 1000)
def rnN (p : Int × Int × Int) (n : Nat) : Nat := if rgB p n = true then n else 0
def rnB (p : Int × Int × Int) (V : Nat → Bool) (n : Nat) : Int × Int × Int := if rgB p n = true then itR p V n else (0, 0, 0)
theorem rnN_le (p : Int × Int × Int) (n : Nat) : rnN p n ≤ n := by unfold rnN; split <;> omega
end Go.Proofs.Ytpnihekpokfooaa
