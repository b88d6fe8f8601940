/-
What is proved: which wants go through, in bools: told by the places ahead, or by the locks.
-/
import Derived.Test.YtjkdnlnbkopbpaaWiI
import Derived.Test.YtjkdnlnbkopbpaaRowI
import Derived.Test.YtjkdnlnbkopbpaaBoL
namespace Go.Proofs.Ytjkdnlnbkopbpaa
set_option maxRecDepth 40000
open Go.ChangeShapes Go.WideShapes Go.ChangeAt Go.RowKit
set_option linter.unusedVariables false
set_option linter.unusedSimpArgs false

def orTo (P : Nat → Bool) : Nat → Bool
  | 0 => false
  | k + 1 => orTo P k || P k
theorem orTo_iff (P : Nat → Bool) : ∀ n, orTo P n = true ↔ ∃ k, k < n ∧ P k = true
  | 0 => by simp [orTo]
  | n + 1 => by
    unfold orTo
    rw [Bool.or_eq_true, orTo_iff P n]
    constructor
    · rintro (⟨k, h1, h2⟩ | h)
      · exact ⟨k, by omega, h2⟩
      · exact ⟨n, by omega, h⟩
    · rintro ⟨k, h1, h2⟩
      by_cases e : k = n
      · subst e; exact Or.inr h2
      · exact Or.inl ⟨k, by omega, h2⟩
theorem orTo_hit {P : Nat → Bool} {k n : Nat} (h : k < n) (hp : P k = true) : orTo P n = true := (orTo_iff P n).2 ⟨k, h, hp⟩
theorem orTo_step {P : Nat → Bool} {k : Nat} (h : orTo P k = false) (hp : P k = false) : orTo P (k + 1) = false := by
  unfold orTo
  rw [h, hp]; rfl
theorem orTo_congr {P Q : Nat → Bool} : ∀ {n : Nat}, (∀ k, k < n → P k = Q k) → orTo P n = orTo Q n
  | 0, _ => rfl
  | n + 1, h => by
    unfold orTo
    rw [orTo_congr (n := n) fun k hk => h k (by omega), h n (by omega)]
/-- A lock bars a and b from one another. -/
def brP (V : Nat → Int) (a b : Int) (j : Nat) : Bool := (decide (V (j * 2) = a) && decide (V (j * 2 + 1) = b)) || (decide (V (j * 2) = b) && decide (V (j * 2 + 1) = a))
/-- The place k has gone through and is barred from i. -/
def anyP (V : Nat → Int) (m : Nat) (T : Nat → Bool) (i : Nat) (k : Nat) : Bool := T k && orTo (brP V k i) m
/-- The other place that a lock names. -/
def otV (V : Nat → Int) (p : Int) (j : Nat) : Int := if p = V (j * 2) then V (j * 2 + 1) else if p = V (j * 2 + 1) then V (j * 2) else 0
def nmB (V : Nat → Int) (p : Int) (j : Nat) : Bool := decide (p = V (j * 2)) || decide (p = V (j * 2 + 1))
def hitP (V : Nat → Int) (n : Nat) (T : Nat → Bool) (p : Int) (j : Nat) : Bool := nmB V p j && (inB 0 ((n : Int) - 1) (otV V p j) && T (otV V p j).toNat)
def perF (Wn : Nat → Bool) (V : Nat → Int) (m : Nat) : Nat → Nat → Bool
  | 0, _ => false
  | i + 1, j => if j = i then (Wn i && !(orTo (anyP V m (perF Wn V m i) i) i)) else perF Wn V m i j
def perV (Wn : Nat → Bool) (V : Nat → Int) (m j : Nat) : Bool := perF Wn V m (j + 1) j
theorem per_lt {Wn : Nat → Bool} {V : Nat → Int} {m : Nat} : ∀ {i j : Nat}, j < i → perF Wn V m i j = perV Wn V m j
  | 0, j, h => by omega
  | i + 1, j, h => by
    by_cases e : j = i
    · subst e; rfl
    · show (if j = i then _ else perF Wn V m i j) = _
      rw [if_neg e]
      exact per_lt (by omega)
theorem per_ge {Wn : Nat → Bool} {V : Nat → Int} {m : Nat} : ∀ {i j : Nat}, i ≤ j → perF Wn V m i j = false
  | 0, j, h => rfl
  | i + 1, j, h => by
    show (if j = i then _ else perF Wn V m i j) = _
    rw [if_neg (by omega)]
    exact per_ge (by omega)
theorem per_if {Wn : Nat → Bool} {V : Nat → Int} {m i j : Nat} : perF Wn V m i j = if j < i then perV Wn V m j else false := by
  by_cases h : j < i
  · rw [if_pos h]; exact per_lt h
  · rw [if_neg h]; exact per_ge (by omega)
theorem per_eq (Wn : Nat → Bool) (V : Nat → Int) (m i : Nat) : perV Wn V m i = (Wn i && !(orTo (anyP V m (perV Wn V m) i) i)) := by
  show (if i = i then _ else _) = _
  rw [if_pos rfl, orTo_congr (P := anyP V m (perF Wn V m i) i) (Q := anyP V m (perV Wn V m) i) fun k hk => by unfold anyP; rw [per_lt hk]]
theorem hit_eq (V : Nat → Int) (m n i : Nat) (T : Nat → Bool) (hi : i < n) (hT : ∀ k, i ≤ k → T k = false) : orTo (hitP V n T i) m = orTo (anyP V m T i) i := by
  rw [Bool.eq_iff_iff, orTo_iff, orTo_iff]
  constructor
  · rintro ⟨j, hj, h⟩
    unfold hitP at h
    simp only [Bool.and_eq_true] at h
    obtain ⟨h1, h2, h3⟩ := h
    obtain ⟨b0, b1⟩ := inB_yes h2
    have hk : (otV V i j).toNat < i := by
      rcases Nat.lt_or_ge (otV V i j).toNat i with q | q
      · exact q
      · rw [hT _ q] at h3; cases h3
    refine ⟨(otV V i j).toNat, hk, ?_⟩
    unfold anyP
    rw [h3, Bool.true_and, orTo_iff]
    refine ⟨j, hj, ?_⟩
    have e : ((otV V i j).toNat : Int) = otV V i j := by omega
    rw [e]
    unfold brP
    unfold nmB at h1
    simp only [Bool.or_eq_true, Bool.and_eq_true, decide_eq_true_iff] at h1 ⊢
    unfold otV
    by_cases q : (i : Int) = V (j * 2)
    · rw [if_pos q]; exact Or.inr ⟨q.symm, rfl⟩
    · have q2 : (i : Int) = V (j * 2 + 1) := by
        rcases h1 with h | h
        · exact absurd h q
        · exact h
      rw [if_neg q, if_pos q2]; exact Or.inl ⟨rfl, q2.symm⟩
  · rintro ⟨k, hk, h⟩
    unfold anyP at h
    rw [Bool.and_eq_true, orTo_iff] at h
    obtain ⟨hk2, j, hj, hb⟩ := h
    unfold brP at hb
    simp only [Bool.or_eq_true, Bool.and_eq_true, decide_eq_true_iff] at hb
    have ho : otV V i j = k ∧ nmB V i j = true := by
      unfold otV nmB
      simp only [Bool.or_eq_true, decide_eq_true_iff]
      rcases hb with ⟨a, b⟩ | ⟨a, b⟩
      · rw [if_neg (by omega), if_pos b.symm]; exact ⟨a, Or.inr b.symm⟩
      · rw [if_pos a.symm]; exact ⟨b, Or.inl a.symm⟩
    refine ⟨j, hj, ?_⟩
    unfold hitP
    rw [ho.1, ho.2, Bool.true_and, Bool.and_eq_true]
    refine ⟨decide_eq_true (by omega), ?_⟩
    rw [show ((k : Int)).toNat = k from by omega]
    exact hk2
end Go.Proofs.Ytjkdnlnbkopbpaa
