/-
What is proved: of what goes through, what the law asks.
-/
import Derived.Test.YtjkdnlnbkopbpaaPm
namespace Go.Proofs.Ytjkdnlnbkopbpaa
set_option maxRecDepth 40000
open Go.ChangeShapes Go.WideShapes Go.ChangeAt Go.RowKit
set_option linter.unusedVariables false
set_option linter.unusedSimpArgs false

def lqV (V : Nat → Int) (i : Int) (j : Nat) : Int := if V (j * 2 + 1) = i then V (j * 2) else V (j * 2 + 1)
def lbP (V : Nat → Int) (n : Nat) (T : Nat → Bool) (i : Int) (j : Nat) : Bool := (decide (V (j * 2 + 1) = i) || decide (V (j * 2) = i)) && (decide (lqV V i j ≠ i) && (inB 0 ((n : Int) - 1) (lqV V i j) && T (lqV V i j).toNat))
theorem lb_names {V : Nat → Int} {n : Nat} {T : Nat → Bool} {i j : Nat} (h : lbP V n T i j = true) : ∃ q : Nat, q ≠ i ∧ q < n ∧ T q = true ∧ brP V q i j = true ∧ brP V i q j = true := by
  unfold lbP at h
  simp only [Bool.and_eq_true, Bool.or_eq_true, decide_eq_true_iff] at h
  obtain ⟨h1, h2, h3, h4⟩ := h
  obtain ⟨b0, b1⟩ := inB_yes h3
  refine ⟨(lqV V i j).toNat, by omega, by omega, h4, ?_⟩
  rw [show ((lqV V i j).toNat : Int) = lqV V i j from by omega]
  unfold brP lqV
  by_cases e : V (j * 2 + 1) = i
  · rw [if_pos e]
    simp [e]
  · rw [if_neg e]
    have e2 : V (j * 2) = i := by
      rcases h1 with q | q
      · exact absurd q e
      · exact q
    simp [e2]
theorem lb_free {Wn : Nat → Bool} {V : Nat → Int} {m n i : Nat} (h : perV Wn V m i = true) : Wn i = true ∧ orTo (lbP V n (perV Wn V m) i) m = false := by
  have h0 := h
  rw [per_eq, Bool.and_eq_true] at h
  refine ⟨h.1, ?_⟩
  cases hc : orTo (lbP V n (perV Wn V m) i) m
  · rfl
  exfalso
  obtain ⟨j, hj, hb⟩ := (orTo_iff _ _).1 hc
  obtain ⟨q, q1, q2, q3, q4, q5⟩ := lb_names hb
  rcases Nat.lt_or_ge q i with l | l
  · have : orTo (anyP V m (perV Wn V m) i) i = true := orTo_hit l (by unfold anyP; rw [q3, Bool.true_and]; exact orTo_hit hj q4)
    rw [this] at h
    exact absurd h.2 (by decide)
  · have : orTo (anyP V m (perV Wn V m) q) q = true := orTo_hit (k := i) (by omega) (by unfold anyP; rw [h0, Bool.true_and]; exact orTo_hit hj q5)
    rw [per_eq, this] at q3
    simp at q3
theorem lb_held {Wn : Nat → Bool} {V : Nat → Int} {m n i : Nat} (hi : i < n) (hw : Wn i = true) (h : perV Wn V m i = false) : orTo (lbP V n (perV Wn V m) i) m = true := by
  rw [per_eq, hw, Bool.true_and] at h
  have h2 : orTo (anyP V m (perV Wn V m) i) i = true := by
    cases e : orTo (anyP V m (perV Wn V m) i) i
    · rw [e] at h; cases h
    · rfl
  obtain ⟨k, hk, ha⟩ := (orTo_iff _ _).1 h2
  unfold anyP at ha
  rw [Bool.and_eq_true] at ha
  obtain ⟨ha, hb⟩ := ha
  obtain ⟨j, hj, hc⟩ := (orTo_iff _ _).1 hb
  refine orTo_hit hj ?_
  unfold brP at hc
  simp only [Bool.or_eq_true, Bool.and_eq_true, decide_eq_true_iff] at hc
  have hq : lqV V i j = k ∧ (V (j * 2 + 1) = i ∨ V (j * 2) = i) := by
    unfold lqV
    rcases hc with ⟨a, b⟩ | ⟨a, b⟩
    · rw [if_pos b]; exact ⟨a, Or.inl b⟩
    · rw [if_neg (by omega)]; exact ⟨b, Or.inr a⟩
  unfold lbP
  rw [hq.1]
  simp only [Bool.and_eq_true, Bool.or_eq_true, decide_eq_true_iff]
  refine ⟨hq.2, by omega, decide_eq_true (by omega), ?_⟩
  rw [show ((k : Int)).toNat = k from by omega]
  exact ha
end Go.Proofs.Ytjkdnlnbkopbpaa
