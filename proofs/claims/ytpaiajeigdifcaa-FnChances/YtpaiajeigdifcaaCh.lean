/-
What is proved: products and chances in numbers.
-/
import Derived.Test.YtpaiajeigdifcaaFl
namespace Go.Proofs.Ytpaiajeigdifcaa
set_option maxRecDepth 40000
open Go.ChangeShapes Go.WideShapes Go.ChangeAt Go.RowKit
set_option linter.unusedVariables false
set_option linter.unusedSimpArgs false

def prdV (b : Nat) (A B : Nat → Int) : Nat → Int
  | 0 => 1
  | i + 1 => prdV b A B i * (if b.testBit i = true then A i else B i)
theorem mul_in {p y M : Int} (p0 : 0 ≤ p) (p1 : p ≤ M) (y0 : 0 ≤ y) (y1 : y ≤ 8) : 0 ≤ p * y ∧ p * y ≤ M * 8 := ⟨Int.mul_nonneg p0 y0, Int.mul_le_mul p1 y1 y0 (Int.le_trans p0 p1)⟩
theorem prd_bound {b : Nat} {A B : Nat → Int} {k : Nat} (hA : ∀ i, i < k → 0 ≤ A i ∧ A i ≤ 8) (hB : ∀ i, i < k → 0 ≤ B i ∧ B i ≤ 8) : 0 ≤ prdV b A B k ∧ prdV b A B k ≤ 8 ^ k := by
  induction k with
  | zero => exact ⟨(by decide : (0 : Int) ≤ 1), (by decide : (1 : Int) ≤ 8 ^ 0)⟩
  | succ k ih =>
    obtain ⟨i0, i1⟩ := ih (fun i hi => hA i (by omega)) (fun i hi => hB i (by omega))
    have hy : 0 ≤ (if b.testBit k = true then A k else B k) ∧ (if b.testBit k = true then A k else B k) ≤ 8 := by
      split
      · exact hA k (by omega)
      · exact hB k (by omega)
    exact mul_in i0 i1 hy.1 hy.2
theorem pow8_le {k m : Nat} (h : k ≤ m) : (8 : Int) ^ k ≤ 8 ^ m := by
  have h1 : (8 : Nat) ^ k ≤ 8 ^ m := Nat.pow_le_pow_right (by decide) h
  have h2 : ((8 ^ k : Nat) : Int) ≤ ((8 ^ m : Nat) : Int) := Int.ofNat_le.2 h1
  simpa using h2
theorem prd_small {b : Nat} {A B : Nat → Int} {k : Nat} (hA : ∀ i, i < k → 0 ≤ A i ∧ A i ≤ 8) (hB : ∀ i, i < k → 0 ≤ B i ∧ B i ≤ 8) (hk : k ≤ 10) : 0 ≤ prdV b A B k ∧ prdV b A B k ≤ 1073741824 := by
  have h1 := prd_bound (b := b) hA hB
  have h2 := pow8_le hk
  exact ⟨h1.1, Int.le_trans h1.2 h2⟩
theorem prd_same {b : Nat} {A B C D : Nat → Int} {k : Nat} (hA : ∀ i, i < k → A i = C i) (hB : ∀ i, i < k → B i = D i) : prdV b A B k = prdV b C D k := by
  induction k with
  | zero => rfl
  | succ k ih =>
    unfold prdV
    rw [ih (fun i hi => hA i (by omega)) (fun i hi => hB i (by omega)), hA k (by omega), hB k (by omega)]
def chaV (x n : Nat) (X : Nat → Int) (K : Nat → Nat) (V : Nat → Nat → Int) (E : Nat → Int) : Nat → Int
  | 0 => 0
  | b + 1 => chaV x n X K V E b + (if faB b x n X K V = true then prdV b E (fun i => 8 - E i) x else 0)
theorem sub8 {E : Nat → Int} {x : Nat} (hE : ∀ i, i < x → 0 ≤ E i ∧ E i ≤ 8) : ∀ i, i < x → 0 ≤ (fun i => 8 - E i) i ∧ (fun i => 8 - E i) i ≤ 8 := fun i hi => by have := hE i hi; show 0 ≤ 8 - E i ∧ 8 - E i ≤ 8; omega
theorem cha_bound {x n : Nat} {X : Nat → Int} {K : Nat → Nat} {V : Nat → Nat → Int} {E : Nat → Int} (hE : ∀ i, i < x → 0 ≤ E i ∧ E i ≤ 8) (hx : x ≤ 10) (b : Nat) : 0 ≤ chaV x n X K V E b ∧ chaV x n X K V E b ≤ b * 1073741824 := by
  induction b with
  | zero => exact ⟨Int.le_refl _, (by decide : (0 : Int) ≤ ((0 : Nat) : Int) * 1073741824)⟩
  | succ b ih =>
    have h1 := prd_small (b := b) hE (sub8 hE) hx
    unfold chaV
    split <;> omega
def eigB (x : Int) (n : Nat) (X : Nat → Int) (K : Nat → Nat) (V : Nat → Nat → Int) (m : Nat) (E : Nat → Int) : Bool := treeB x n X K V && (decide ((m : Int) = x) && allInB 0 8 E m)
theorem eig_yes {x : Int} {n : Nat} {X : Nat → Int} {K : Nat → Nat} {V : Nat → Nat → Int} {m : Nat} {E : Nat → Int} (h : eigB x n X K V m E = true) : treeB x n X K V = true ∧ (m : Int) = x ∧ ∀ i, i < m → 0 ≤ E i ∧ E i ≤ 8 := by
  unfold eigB at h
  simp only [Bool.and_eq_true, decide_eq_true_iff] at h
  exact ⟨h.1, h.2.1, allIn_yes h.2.2.symm⟩
def chanceV (x : Int) (n : Nat) (X : Nat → Int) (K : Nat → Nat) (V : Nat → Nat → Int) (m : Nat) (E : Nat → Int) : Int := if eigB x n X K V m E = true then chaV x.toNat n X K V E (2 ^ x.toNat) else -1
theorem wpow (x : Nat) (hx : x ≤ 10) : wrap64 ((2 : Int) ^ x) = ((2 ^ x : Nat) : Int) := by
  have hp : 2 ^ x ≤ 2 ^ 10 := Nat.pow_le_pow_right (by decide) hx
  have hq : ((2 ^ x : Nat) : Int) ≤ 1024 := by have : ((2 ^ x : Nat) : Int) ≤ ((2 ^ 10 : Nat) : Int) := Int.ofNat_le.2 hp; simpa using this
  have hz : (0 : Int) ≤ ((2 ^ x : Nat) : Int) := Int.natCast_nonneg _
  rw [pow_cast, IntWalk.wrap64_in _ ⟨by omega, by omega⟩]
end Go.Proofs.Ytpaiajeigdifcaa
