/-
What is proved: when a feeder is selective, in numbers.
-/
import Derived.Test.YtmhibahefbldaaaFe
namespace Go.Proofs.Ytmhibahefbldaaa
set_option maxRecDepth 40000
open Go.RowKit
set_option linter.unusedVariables false
set_option linter.unusedSimpArgs false

def apB (V : Nat → Int) (a ap : Int) (k : Nat) : Bool := decide (0 ≤ dl V a k ∧ ∀ j, j < k → 0 ≤ dl V a j → dl V a k + ap ≤ dl V a j)
theorem ap_neg {V : Nat → Int} {a ap : Int} {k : Nat} (h : dl V a k < 0) : apB V a ap k = false := decide_eq_false fun q => by omega
theorem ap_no {V : Nat → Int} {a ap : Int} {k j : Nat} (hj : j < k) (h0 : 0 ≤ dl V a j) (h : dl V a j < dl V a k + ap) : apB V a ap k = false := decide_eq_false fun q => by have := q.2 j hj h0; omega
theorem ap_yes {V : Nat → Int} {a ap : Int} {k : Nat} (h0 : 0 ≤ dl V a k) (h : ∀ j, j < k → 0 ≤ dl V a j → dl V a k + ap ≤ dl V a j) : apB V a ap k = true := decide_eq_true ⟨h0, h⟩
theorem ap_of {V : Nat → Int} {a ap : Int} {k : Nat} (h : apB V a ap k = true) : 0 ≤ dl V a k ∧ ∀ j, j < k → 0 ≤ dl V a j → dl V a k + ap ≤ dl V a j := of_decide_eq_true h
def goS (n : Nat) (V : Nat → Int) (m : Nat) (A : Nat → Int) (ap : Int) : Bool := feedB n V && (decide (m = n) && (allInB 0 1000000 A m && inB 0 1000000 ap))
def SelV (n : Nat) (V : Nat → Int) (m : Nat) (A : Nat → Int) (ap x : Int) : Prop := (goS n V m A ap = false ∧ x = -2) ∨ (goS n V m A ap = true ∧ ((x = -1 ∧ ∀ k, k < n → apB V (A k) ap k = true) ∨ ∃ k : Nat, k < n ∧ x = k ∧ apB V (A k) ap k = false ∧ ∀ j, j < k → apB V (A j) ap j = true))
theorem SelV.one {n : Nat} {V : Nat → Int} {m : Nat} {A : Nat → Int} {ap x y : Int} (h : SelV n V m A ap x) (h' : SelV n V m A ap y) : x = y := by
  rcases h with ⟨h1, rfl⟩ | ⟨h1, h2⟩ <;> rcases h' with ⟨k1, rfl⟩ | ⟨k1, k2⟩
  · rfl
  · rw [h1] at k1; cases k1
  · rw [h1] at k1; cases k1
  · rcases h2 with ⟨rfl, h2⟩ | ⟨i, i1, rfl, i2, i3⟩ <;> rcases k2 with ⟨rfl, k2⟩ | ⟨j, j1, rfl, j2, j3⟩
    · rfl
    · have := h2 j j1; rw [j2] at this; cases this
    · have := k2 i i1; rw [i2] at this; cases this
    · rcases Nat.lt_trichotomy i j with c | c | c
      · have := j3 i c; rw [i2] at this; cases this
      · rw [c]
      · have := i3 j c; rw [j2] at this; cases this
theorem sel_up (n : Nat) (V : Nat → Int) (A : Nat → Int) (ap : Int) : ∀ d k : Nat, k + d = n → (∀ j, j < k → apB V (A j) ap j = true) → ∃ x : Int, ((x = -1 ∧ ∀ k, k < n → apB V (A k) ap k = true) ∨ ∃ k : Nat, k < n ∧ x = k ∧ apB V (A k) ap k = false ∧ ∀ j, j < k → apB V (A j) ap j = true)
  | 0, k, e, h => ⟨-1, .inl ⟨rfl, fun j hj => h j (by omega)⟩⟩
  | d + 1, k, e, h => by
    cases q : apB V (A k) ap k
    · exact ⟨k, .inr ⟨k, by omega, rfl, q, h⟩⟩
    · exact sel_up n V A ap d (k + 1) (by omega) (ball_succ h q)
theorem sel_some (n : Nat) (V : Nat → Int) (m : Nat) (A : Nat → Int) (ap : Int) : ∃ x, SelV n V m A ap x := by
  cases h : goS n V m A ap
  · exact ⟨-2, .inl ⟨h, rfl⟩⟩
  · obtain ⟨x, hx⟩ := sel_up n V A ap n 0 (by omega) (fun j hj => by omega)
    exact ⟨x, .inr ⟨h, hx⟩⟩
theorem keepS {W W' : World} {p q i0 i1 j : Nat} {a0 a1 b : Value} (h0 : W.cell? ⟨p, i0, none⟩ = some a0) (h1 : W.cell? ⟨p, i1, none⟩ = some a1) (g : W.cell? ⟨q, j, none⟩ = some b) (hp : p < W.heap.size) (hq : q < W.heap.size) (hb : Below W.heap.size W W') : W'.cell? ⟨p, i0, none⟩ = some a0 ∧ W'.cell? ⟨p, i1, none⟩ = some a1 ∧ W'.cell? ⟨q, j, none⟩ = some b :=
  ⟨(hb.cell (p := ⟨p, i0, none⟩) hp).trans h0, (hb.cell (p := ⟨p, i1, none⟩) hp).trans h1, (hb.cell (p := ⟨q, j, none⟩) hq).trans g⟩
end Go.Proofs.Ytmhibahefbldaaa
