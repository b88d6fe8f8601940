/-
What is proved: whether a burner's valve was open where it may not be, in bools.
-/
import Derived.Test.YtpnihekpokfooaaBoR
namespace Go.Proofs.Ytpnihekpokfooaa
set_option maxRecDepth 40000
open Go.RowKit
set_option linter.unusedVariables false
set_option linter.unusedSimpArgs false

theorem ballB {P : Nat → Prop} {k : Nat} (h : ∀ j, j < k → P j) (h1 : P k) : ∀ j, j < k + 1 → P j := fun j hj => by
  by_cases e : j = k
  · rw [e]; exact h1
  · exact h j (by omega)
def atB (F : Bool → Bool → Bool → Bool → Bool) (V : Nat → Bool) (k : Nat) : Bool := F (V (k * 4)) (V (k * 4 + 1)) (V (k * 4 + 2)) (V (k * 4 + 3))
def eachB (F : Bool → Bool → Bool → Bool → Bool) (V : Nat → Bool) (n m : Nat) : Bool := decide (m ≤ n ∧ ∀ k, k < n → n - m ≤ k → atB F V k = true)
def openF (a g f v : Bool) : Bool := v
def darkF (a g f v : Bool) : Bool := !f
def purgF (a g f v : Bool) : Bool := a && (!f && !v)
def barB (a g f : Bool) (V : Nat → Bool) (i : Nat) : Bool := if (a && g) = false then true else if eachB openF V i 1 = false then (f || !eachB purgF V i 4) else ((!f && eachB darkF V i 2) && eachB openF V i 3)
def badB (V : Nat → Bool) (i : Nat) : Bool := V (i * 4 + 3) && barB (V (i * 4)) (V (i * 4 + 1)) (V (i * 4 + 2)) V i
def LawV (n : Nat) (V : Nat → Bool) (x : Int) : Prop := (1000 < n ∧ x = -1) ∨ (n ≤ 1000 ∧ ((x = -1 ∧ ∀ k, k < n → badB V k = false) ∨ ∃ k : Nat, k < n ∧ x = k ∧ badB V k = true ∧ ∀ j, j < k → badB V j = false))
theorem LawV.one {n : Nat} {V : Nat → Bool} {x y : Int} (h : LawV n V x) (h' : LawV n V y) : x = y := by
  rcases h with ⟨h1, rfl⟩ | ⟨h1, h2⟩ <;> rcases h' with ⟨k1, rfl⟩ | ⟨k1, k2⟩
  · rfl
  · omega
  · omega
  · rcases h2 with ⟨rfl, h2⟩ | ⟨i, i1, rfl, i2, i3⟩ <;> rcases k2 with ⟨rfl, k2⟩ | ⟨j, j1, rfl, j2, j3⟩
    · rfl
    · have := h2 j j1; rw [j2] at this; cases this
    · have := k2 i i1; rw [i2] at this; cases this
    · rcases Nat.lt_trichotomy i j with c | c | c
      · have := j3 i c; rw [i2] at this; cases this
      · rw [c]
      · have := i3 j c; rw [j2] at this; cases this
theorem law_up (n : Nat) (V : Nat → Bool) : ∀ d k : Nat, k + d = n → (∀ j, j < k → badB V j = false) → ∃ x : Int, ((x = -1 ∧ ∀ k, k < n → badB V k = false) ∨ ∃ k : Nat, k < n ∧ x = k ∧ badB V k = true ∧ ∀ j, j < k → badB V j = false)
  | 0, k, e, h => ⟨-1, .inl ⟨rfl, fun j hj => h j (by omega)⟩⟩
  | d + 1, k, e, h => by
    cases q : badB V k
    · exact law_up n V d (k + 1) (by omega) (ballB h q)
    · exact ⟨k, .inr ⟨k, by omega, rfl, q, h⟩⟩
theorem law_some (n : Nat) (V : Nat → Bool) : ∃ x, LawV n V x := by
  by_cases h : n ≤ 1000
  · obtain ⟨x, hx⟩ := law_up n V n 0 (by omega) (fun j hj => by omega)
    exact ⟨x, .inr ⟨h, hx⟩⟩
  · exact ⟨-1, .inl ⟨by omega, rfl⟩⟩
theorem each_short {F : Bool → Bool → Bool → Bool → Bool} {V : Nat → Bool} {n m : Nat} (h : n < m) : eachB F V n m = false := decide_eq_false fun q => by omega
theorem each_no {F : Bool → Bool → Bool → Bool → Bool} {V : Nat → Bool} {n m k : Nat} (h1 : n - m ≤ k) (h2 : k < n) (h : atB F V k = false) : eachB F V n m = false := decide_eq_false fun q => by have := q.2 k h2 h1; rw [h] at this; cases this
theorem each_yes {F : Bool → Bool → Bool → Bool → Bool} {V : Nat → Bool} {n m : Nat} (h0 : m ≤ n) (h : ∀ k, n - m ≤ k → k < n → atB F V k = true) : eachB F V n m = true := decide_eq_true ⟨h0, fun k h1 h2 => h k h2 h1⟩
theorem open_one {V : Nat → Bool} {p : Nat} : eachB openF V (p + 1) 1 = V (p * 4 + 3) := by
  cases h : V (p * 4 + 3)
  · exact each_no (k := p) (by omega) (by omega) h
  · exact each_yes (by omega) fun k h1 h2 => by obtain rfl : k = p := by omega
                                                exact h
theorem row_upto {w : World} {s : Option Addr} {n m : Nat} {V : Nat → Bool} (h : RowB w s n V) (hm : m ≤ n) : RowB w s m V := fun j hj => h j (by omega)
end Go.Proofs.Ytpnihekpokfooaa
