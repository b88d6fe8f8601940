/-
What is proved: when machines are right, and what they take at a tick, in numbers.
-/
import Derived.Test.YtcialcejmjggeaaIsW
import Derived.Test.YtcialcejmjggeaaAllIn
import Derived.Test.YtcialcejmjggeaaRowI
namespace Go.Proofs.Ytcialcejmjggeaa
set_option maxRecDepth 40000
open Go.RowKit
set_option linter.unusedVariables false
set_option linter.unusedSimpArgs false

theorem wrap_in {x : Int} (h0 : -9223372036854775808 ≤ x) (h1 : x ≤ 9223372036854775807) : IntKind.i64.wrap x = x := by
  rw [IntKind.wrap_i64]; omega
def machV (a b c d : Int) : Bool := inB 0 1000000 a && (inB 0 1000000 b && (inB 1 20 c && inB 1 9 d))
def machB (V : Nat → Int) (j : Nat) : Bool := machV (V (j * 4)) (V (j * 4 + 1)) (V (j * 4 + 2)) (V (j * 4 + 3))
def machsB (n : Nat) (V : Nat → Int) : Bool := decide (n ≤ 60 ∧ ∀ j, j < n → machB V j = true)
theorem machV_yes {a b c d : Int} (h : machV a b c d = true) : (0 ≤ a ∧ a ≤ 1000000) ∧ (0 ≤ b ∧ b ≤ 1000000) ∧ (1 ≤ c ∧ c ≤ 20) ∧ (1 ≤ d ∧ d ≤ 9) := by
  unfold machV inB at h
  simp only [Bool.and_eq_true, decide_eq_true_iff] at h
  omega
theorem machs_no {n k : Nat} {V : Nat → Int} (hk : k < n) (h : machB V k = false) : machsB n V = false := decide_eq_false fun q => by have := q.2 k hk; rw [h] at this; cases this
theorem machs_far {n : Nat} {V : Nat → Int} (h : 60 < n) : machsB n V = false := decide_eq_false fun q => by omega
theorem machs_all {n : Nat} {V : Nat → Int} (hn : n ≤ 60) (h : ∀ j, j < n → machB V j = true) : machsB n V = true := decide_eq_true ⟨hn, h⟩
theorem machs_yes {n : Nat} {V : Nat → Int} (h : machsB n V = true) : n ≤ 60 ∧ ∀ j, j < n → machB V j = true := of_decide_eq_true h
def startB (f t m : Int) : Bool := decide (0 ≤ f ∧ f ≤ t ∧ t < f + m)
def takesV (a b m f t : Int) : Int := if f < 0 ∨ t < f then 0 else if t < f + m then a + b else a
def powV (V T : Nat → Int) (t : Int) : Nat → Int
  | 0 => 0
  | k + 1 => powV V T t k + takesV (V (k * 4)) (V (k * 4 + 1)) (V (k * 4 + 2)) (T k) t
theorem takes_bd (a b m f t : Int) (ha : 0 ≤ a ∧ a ≤ 1000000) (hb : 0 ≤ b ∧ b ≤ 1000000) : 0 ≤ takesV a b m f t ∧ takesV a b m f t ≤ 2000000 := by
  unfold takesV; split <;> (try split) <;> omega
theorem pow_bd (V T : Nat → Int) (t : Int) : ∀ (k : Nat), (∀ j, j < k → machB V j = true) → 0 ≤ powV V T t k ∧ powV V T t k ≤ 2000000 * k
  | 0, _ => by unfold powV; omega
  | k + 1, h => by
    have a := pow_bd V T t k fun j hj => h j (by omega)
    obtain ⟨ha, hb, -, -⟩ := machV_yes (h k (by omega))
    have b := takes_bd (V (k * 4)) (V (k * 4 + 1)) (V (k * 4 + 2)) (T k) t ha hb
    unfold powV
    omega
def atB (n : Nat) (V : Nat → Int) (m : Nat) (T : Nat → Int) (t : Int) : Bool := machsB n V && (decide (m = n) && (allInB (-1) 1000000 T m && inB 0 1000000 t))
def atV (n : Nat) (V : Nat → Int) (m : Nat) (T : Nat → Int) (t : Int) : Int := if atB n V m T t = true then powV V T t n else -1
theorem keepM5 {W W' : World} {p q i0 i1 i2 i3 j : Nat} {a0 a1 a2 a3 b : Value} (h0 : W.cell? ⟨p, i0, none⟩ = some a0) (h1 : W.cell? ⟨p, i1, none⟩ = some a1) (h2 : W.cell? ⟨p, i2, none⟩ = some a2) (h3 : W.cell? ⟨p, i3, none⟩ = some a3) (g : W.cell? ⟨q, j, none⟩ = some b) (hp : p < W.heap.size) (hq : q < W.heap.size) (hb : Below W.heap.size W W') : W'.cell? ⟨p, i0, none⟩ = some a0 ∧ W'.cell? ⟨p, i1, none⟩ = some a1 ∧ W'.cell? ⟨p, i2, none⟩ = some a2 ∧ W'.cell? ⟨p, i3, none⟩ = some a3 ∧ W'.cell? ⟨q, j, none⟩ = some b :=
  ⟨(hb.cell (p := ⟨p, i0, none⟩) hp).trans h0, (hb.cell (p := ⟨p, i1, none⟩) hp).trans h1, (hb.cell (p := ⟨p, i2, none⟩) hp).trans h2, (hb.cell (p := ⟨p, i3, none⟩) hp).trans h3, (hb.cell (p := ⟨q, j, none⟩) hq).trans g⟩
end Go.Proofs.Ytcialcejmjggeaa
