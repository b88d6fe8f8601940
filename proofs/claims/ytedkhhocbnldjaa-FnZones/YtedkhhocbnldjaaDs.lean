/-
What is proved: the time of the nearest zone that sees, in numbers.
-/
import Derived.Test.YtedkhhocbnldjaaZo
import Derived.Test.YtedkhhocbnldjaaDivPair
namespace Go.Proofs.Ytedkhhocbnldjaa
set_option maxRecDepth 40000
open Go.RowKit
set_option linter.unusedVariables false
set_option linter.unusedSimpArgs false

def znB (C E R : Nat → Nat) (T : Nat → Int) (k : Nat) : Bool := zoneB (C k) (E k) (R k) (T k)
def snB (C E R : Nat → Nat) (T : Nat → Int) (a b g d : Option Nat) (k : Nat) : Bool := znB C E R T k && leO (normO (opO .sub (divRe a b g d) (ofW (C k))) (opO .sub (divIm a b g d) (ofW (E k)))) (opO .mul (ofW (R k)) (ofW (R k)))
def lzV (C E R : Nat → Nat) (T : Nat → Int) (a b g d : Option Nat) : Nat → Int
  | 0 => -1
  | k + 1 => if (snB C E R T a b g d k && (decide (lzV C E R T a b g d k < 0) || decide (T k < lzV C E R T a b g d k))) = true then T k else lzV C E R T a b g d k
theorem zone_time {c e r : Nat} {t : Int} (h : zoneB c e r t = true) : 0 ≤ t ∧ t ≤ 100000 := by
  unfold zoneB at h
  simp only [Bool.and_eq_true] at h
  exact inB_yes h.2.2.2.2
theorem lz_rng (C E R : Nat → Nat) (T : Nat → Int) (a b g d : Option Nat) : ∀ k, -1 ≤ lzV C E R T a b g d k ∧ lzV C E R T a b g d k ≤ 100000
  | 0 => by show -1 ≤ (-1 : Int) ∧ (-1 : Int) ≤ 100000; omega
  | k + 1 => by
    have := lz_rng C E R T a b g d k
    unfold lzV
    split
    · rename_i h
      simp only [Bool.and_eq_true] at h
      have h1 := h.1
      unfold snB znB at h1
      simp only [Bool.and_eq_true] at h1
      have := zone_time h1.1
      omega
    · exact this
def dsB (C E R : Nat → Nat) (T : Nat → Int) (n : Nat) : Bool := decide (n ≤ 8 ∧ ∀ k, k < n → znB C E R T k = true)
def dsV (C E R : Nat → Nat) (T : Nat → Int) (a b g d : Option Nat) (n : Nat) : Int := if dsB C E R T n = true then lzV C E R T a b g d n else -1
theorem ds_far (C E R : Nat → Nat) (T : Nat → Int) (a b g d : Option Nat) {n : Nat} (h : ¬ n ≤ 8) : dsV C E R T a b g d n = -1 := by
  unfold dsV dsB; rw [decide_eq_false (fun q => h q.1)]; rfl
theorem ds_no (C E R : Nat → Nat) (T : Nat → Int) (a b g d : Option Nat) {n k : Nat} (hk : k < n) (h : znB C E R T k = false) : dsV C E R T a b g d n = -1 := by
  unfold dsV dsB; rw [decide_eq_false (fun q => by have := q.2 k hk; rw [h] at this; cases this)]; rfl
theorem ds_yes (C E R : Nat → Nat) (T : Nat → Int) (a b g d : Option Nat) {n : Nat} (hn : n ≤ 8) (h : ∀ k, k < n → znB C E R T k = true) : dsV C E R T a b g d n = lzV C E R T a b g d n := by
  unfold dsV dsB; rw [decide_eq_true ⟨hn, h⟩]; rfl
theorem ballZ {P : Nat → Prop} {k : Nat} (h : ∀ j, j < k → P j) (h1 : P k) : ∀ j, j < k + 1 → P j := fun j hj => by
  by_cases e : j = k
  · rw [e]; exact h1
  · exact h j (by omega)
end Go.Proofs.Ytedkhhocbnldjaa
