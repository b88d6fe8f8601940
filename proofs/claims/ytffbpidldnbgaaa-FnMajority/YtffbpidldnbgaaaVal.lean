/-
What is proved: what several instruments say together, in numbers.
-/
import Derived.Test.YtffbpidldnbgaaaStl
import Derived.Test.YtffbpidldnbgaaaDist
import Derived.Test.YtffbpidldnbgaaaBoL
namespace Go.Proofs.Ytffbpidldnbgaaa
set_option maxRecDepth 40000
open Go.RowKit
set_option linter.unusedVariables false
set_option linter.unusedSimpArgs false

def cnt (p : Nat → Bool) : Nat → Nat
  | 0 => 0
  | k + 1 => if p k = true then cnt p k + 1 else cnt p k
theorem cnt_le (p : Nat → Bool) : ∀ k, cnt p k ≤ k
  | 0 => Nat.le_refl _
  | k + 1 => by have := cnt_le p k; unfold cnt; split <;> omega
theorem cnt_yes {p : Nat → Bool} {k : Nat} (h : p k = true) : cnt p (k + 1) = cnt p k + 1 := by show (if p k = true then _ else _) = _; rw [if_pos h]
theorem cnt_no {p : Nat → Bool} {k : Nat} (h : p k = false) : cnt p (k + 1) = cnt p k := by show (if p k = true then _ else _) = _; rw [h]; rfl
theorem cnt_none {p : Nat → Bool} : ∀ k, (∀ j, j < k → p j = false) → cnt p k = 0
  | 0, _ => rfl
  | k + 1, h => by rw [cnt_no (h k (by omega))]; exact cnt_none k fun j hj => h j (by omega)
/-- Are the one at i and the one at k both known, and near? -/
def nbB (V : Nat → Option Nat) (a : Option Nat) (i k : Nat) : Bool := knP (V i) && (knP (V k) && nearO (V i) (V k) a)
def frN (V : Nat → Option Nat) (a : Option Nat) (n i : Nat) : Nat := cnt (nbB V a i) n
def bstN (V : Nat → Option Nat) (a : Option Nat) (n : Nat) : Nat → Nat
  | 0 => 0
  | k + 1 => if frN V a n (bstN V a n k) < frN V a n k then k else bstN V a n k
theorem bst_yes {V : Nat → Option Nat} {a : Option Nat} {n k : Nat} (h : frN V a n (bstN V a n k) < frN V a n k) : bstN V a n (k + 1) = k := by show (if frN V a n (bstN V a n k) < frN V a n k then k else bstN V a n k) = k; rw [if_pos h]
theorem bst_no {V : Nat → Option Nat} {a : Option Nat} {n k : Nat} (h : ¬ frN V a n (bstN V a n k) < frN V a n k) : bstN V a n (k + 1) = bstN V a n k := by show (if frN V a n (bstN V a n k) < frN V a n k then k else bstN V a n k) = bstN V a n k; rw [if_neg h]
theorem bst_lt (V : Nat → Option Nat) (a : Option Nat) (n : Nat) (hn : 0 < n) : ∀ k, k ≤ n → bstN V a n k < n
  | 0, _ => hn
  | k + 1, h => by have := bst_lt V a n hn k (by omega); show (if _ then k else bstN V a n k) < n; split <;> omega
def frO (V : Nat → Option Nat) (a : Option Nat) (n : Nat) : Option Nat → Nat
  | none => 0
  | some i => frN V a n i
def bsI (V : Nat → Option Nat) (a : Option Nat) (n : Nat) : Nat → Option Nat
  | 0 => none
  | k + 1 => if knP (V k) = true ∧ frO V a n (bsI V a n k) < frN V a n k then some k else bsI V a n k
theorem fr_kn {V : Nat → Option Nat} {a : Option Nat} {n i : Nat} (h : 0 < frN V a n i) : knP (V i) = true := by
  cases e : knP (V i)
  · have : frN V a n i = 0 := cnt_none n fun j _ => by unfold nbB; rw [e]; rfl
    omega
  · rfl
theorem bs_same (V : Nat → Option Nat) (a : Option Nat) (n : Nat) : ∀ k, (frN V a n (bstN V a n (k + 1)) = 0 ∧ bsI V a n (k + 1) = none) ∨ (0 < frN V a n (bstN V a n (k + 1)) ∧ bsI V a n (k + 1) = some (bstN V a n (k + 1)))
  | 0 => by
    have e1 : bstN V a n 1 = 0 := by show (if _ then 0 else 0) = 0; split <;> rfl
    rw [e1]
    by_cases h : 0 < frN V a n 0
    · exact .inr ⟨h, by show (if _ then some 0 else none) = some 0; rw [if_pos ⟨fr_kn h, h⟩]⟩
    · exact .inl ⟨by omega, by show (if _ then some 0 else none) = none; rw [if_neg (fun q => h q.2)]⟩
  | k + 1 => by
    have ih := bs_same V a n k
    have e1 : bstN V a n (k + 1 + 1) = if frN V a n (bstN V a n (k + 1)) < frN V a n (k + 1) then k + 1 else bstN V a n (k + 1) := rfl
    have e2 : bsI V a n (k + 1 + 1) = if knP (V (k + 1)) = true ∧ frO V a n (bsI V a n (k + 1)) < frN V a n (k + 1) then some (k + 1) else bsI V a n (k + 1) := rfl
    rw [e1, e2]
    rcases ih with ⟨h1, h2⟩ | ⟨h1, h2⟩
    · rw [h2]
      by_cases q : 0 < frN V a n (k + 1)
      · rw [if_pos (by omega), if_pos ⟨fr_kn q, q⟩]
        exact .inr ⟨q, rfl⟩
      · rw [if_neg (by omega), if_neg (fun z => q z.2)]
        exact .inl ⟨h1, rfl⟩
    · rw [h2]
      by_cases q : frN V a n (bstN V a n (k + 1)) < frN V a n (k + 1)
      · have q2 : 0 < frN V a n (k + 1) := by omega
        rw [if_pos q, if_pos ⟨fr_kn q2, q⟩]
        exact .inr ⟨q2, rfl⟩
      · rw [if_neg q, if_neg (fun z => q z.2)]
        exact .inr ⟨h1, rfl⟩
def goodB (V : Nat → Option Nat) (a : Option Nat) (n : Nat) : Bool := decide (n < 2 * frN V a n (bstN V a n n))
def flgB (V : Nat → Option Nat) (a : Option Nat) (n j : Nat) : Bool := if goodB V a n = true then nbB V a (bstN V a n n) j else knP (V j)
def thL (V : Nat → Option Nat) (p : Nat → Bool) : Nat → List (Option Nat)
  | 0 => []
  | k + 1 => if p k = true then thL V p k ++ [V k] else thL V p k
theorem th_yes {V : Nat → Option Nat} {p : Nat → Bool} {k : Nat} (h : p k = true) : thL V p (k + 1) = thL V p k ++ [V k] := by show (if p k = true then _ else _) = _; rw [if_pos h]
theorem th_no {V : Nat → Option Nat} {p : Nat → Bool} {k : Nat} (h : p k = false) : thL V p (k + 1) = thL V p k := by show (if p k = true then _ else _) = _; rw [h]; rfl
theorem th_le (V : Nat → Option Nat) (p : Nat → Bool) : ∀ k, (thL V p k).length ≤ k
  | 0 => Nat.le_refl _
  | k + 1 => by have := th_le V p k; unfold thL; split <;> simp <;> omega
def sumL (l : List (Option Nat)) : Option Nat := l.foldl (opO .add) (some 0)
theorem sum_snoc (l : List (Option Nat)) (x : Option Nat) : sumL (l ++ [x]) = opO .add (sumL l) x := by simp [sumL]
def vaB (n z : Nat) : Bool := decide (1 ≤ n ∧ n ≤ 16) && (knownB z && !(FloatKind.f64.format.order z 0 == some .lt))
def vaM (n z : Nat) : Nat := if vaB n z = true then n else 0
def vaG (V : Nat → Option Nat) (a : Option Nat) (n z : Nat) : Bool := vaB n z && goodB V a n
def vaQ (V : Nat → Option Nat) (a : Option Nat) (n z : Nat) : Option Nat := if vaG V a n z = true then opO .quo (sumL (thL V (flgB V a n) n)) (some (itf (frN V a n (bstN V a n n)))) else none
theorem va_no (V : Nat → Option Nat) (a : Option Nat) {n z : Nat} (h : vaB n z = false) : vaM n z = 0 ∧ vaG V a n z = false ∧ vaQ V a n z = none := by
  unfold vaQ vaG vaM; rw [h]; exact ⟨rfl, rfl, rfl⟩
theorem va_yes (V : Nat → Option Nat) (a : Option Nat) {n z : Nat} (h : vaB n z = true) : vaM n z = n ∧ vaG V a n z = goodB V a n ∧ vaQ V a n z = (if goodB V a n = true then opO .quo (sumL (thL V (flgB V a n) n)) (some (itf (frN V a n (bstN V a n n)))) else none) := by
  unfold vaQ vaG vaM; rw [h]; exact ⟨rfl, rfl, rfl⟩
end Go.Proofs.Ytffbpidldnbgaaa
