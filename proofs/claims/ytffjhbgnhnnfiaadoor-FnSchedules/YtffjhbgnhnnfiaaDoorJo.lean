/-
What is proved: when jobs are right, in numbers; when each begins that waits for those it comes behind alone; the greatest row.
-/
import Derived.Test.YtffjhbgnhnnfiaaDoorClG
import Derived.Test.YtffjhbgnhnnfiaaDoorRis
import Derived.Test.YtffjhbgnhnnfiaaDoorJbT
namespace Go.Proofs.YtffjhbgnhnnfiaaDoor
set_option maxRecDepth 40000
open Go.ChangeShapes Go.WideShapes Go.ChangeAt Go.RowKit
set_option linter.unusedVariables false
set_option linter.unusedSimpArgs false

def ErrJ (w : World) : Prop := ErrA w ∧ ErrG 0 w ∧ ErrG 1 w ∧ ErrG 2 w
theorem ErrJ.below {w w' : World} (h : ErrJ w) (hb : Below w.heap.size w w') : ErrJ w' := ⟨h.1.below hb, h.2.1.below hb, h.2.2.1.below hb, h.2.2.2.below hb⟩
def jobB (j : Nat) (X : Nat → Int) (K : Nat → Nat) (V : Nat → Nat → Int) : Bool := inB 1 1000 (X j) && (risB (V j) (K j) && allInB 0 ((j : Int) - 1) (V j) (K j))
def jobsB (n : Nat) (X : Nat → Int) (K : Nat → Nat) (V : Nat → Nat → Int) : Bool := decide (n ≤ 40) && decide (∀ j, j < n → jobB j X K V = true)
theorem job_yes {j : Nat} {X : Nat → Int} {K : Nat → Nat} {V : Nat → Nat → Int} (h : jobB j X K V = true) : (1 ≤ X j ∧ X j ≤ 1000) ∧ risB (V j) (K j) = true ∧ ∀ i, i < K j → 0 ≤ V j i ∧ V j i ≤ (j : Int) - 1 := by
  unfold jobB at h
  simp only [Bool.and_eq_true] at h
  exact ⟨inB_yes h.1, h.2.1, allIn_yes h.2.2.symm⟩
theorem jobs_long {n : Nat} {X : Nat → Int} {K : Nat → Nat} {V : Nat → Nat → Int} (h : 40 < n) : jobsB n X K V = false := by unfold jobsB; rw [decide_eq_false (by omega)]; rfl
theorem jobs_is {n : Nat} {X : Nat → Int} {K : Nat → Nat} {V : Nat → Nat → Int} (h : n ≤ 40) : jobsB n X K V = decide (∀ j, j < n → jobB j X K V = true) := by unfold jobsB; rw [decide_eq_true h]; rfl
theorem jobs_yes {n : Nat} {X : Nat → Int} {K : Nat → Nat} {V : Nat → Nat → Int} (h : jobsB n X K V = true) : n ≤ 40 ∧ ∀ j, j < n → jobB j X K V = true := by
  unfold jobsB at h
  simp only [Bool.and_eq_true, decide_eq_true_eq] at h
  exact h
theorem jobs_bad {n k : Nat} {X : Nat → Int} {K : Nat → Nat} {V : Nat → Nat → Int} (hk : k < n) (h : jobB k X K V = false) : jobsB n X K V = false := by
  cases e : jobsB n X K V
  · rfl
  · have := (jobs_yes e).2 k hk
    rw [h] at this; cases this
def mxI (a b : Int) : Int := if a < b then b else a
theorem mx_is (a b : Int) : mxI a b = if b > a then b else a := rfl
theorem mx_le {a b c : Int} (h1 : a ≤ c) (h2 : b ≤ c) : mxI a b ≤ c := by unfold mxI; split <;> omega
theorem mx_ge {a b c : Int} (h1 : c ≤ a) : c ≤ mxI a b := by unfold mxI; split <;> omega
theorem mx_ge2 (a b : Int) : a ≤ mxI a b ∧ b ≤ mxI a b := by unfold mxI; split <;> omega
/-- The greatest end of the first i of those that a job comes behind. -/
def rdyF (X B : Nat → Int) (v : Nat → Int) : Nat → Int
  | 0 => 0
  | i + 1 => mxI (rdyF X B v i) (B (v i).toNat + X (v i).toNat)
theorem rdy_in {X B v : Nat → Int} {h : Int} (h0 : 0 ≤ h) : ∀ k, (∀ i, i < k → B (v i).toNat + X (v i).toNat ≤ h) → 0 ≤ rdyF X B v k ∧ rdyF X B v k ≤ h := by
  intro k
  induction k with
  | zero => intro _; exact ⟨Int.le_refl _, h0⟩
  | succ k ih =>
    intro q
    have := ih (fun i hi => q i (by omega))
    exact ⟨mx_ge this.1, mx_le this.2 (q k (by omega))⟩
theorem rdy_same {X B B' v : Nat → Int} : ∀ k, (∀ i, i < k → B (v i).toNat = B' (v i).toNat) → rdyF X B v k = rdyF X B' v k := by
  intro k
  induction k with
  | zero => intro _; rfl
  | succ k ih =>
    intro q
    show mxI _ _ = mxI _ _
    rw [ih (fun i hi => q i (by omega)), q k (by omega)]
/-- When the first k begin, each as soon as those that it comes behind have ended. -/
def crT (X : Nat → Int) (K : Nat → Nat) (V : Nat → Nat → Int) : Nat → Nat → Int
  | 0 => fun _ => 0
  | k + 1 => fun j => if j = k then rdyF X (crT X K V k) (V k) (K k) else crT X K V k j
theorem crT_new (X : Nat → Int) (K : Nat → Nat) (V : Nat → Nat → Int) (k : Nat) : crT X K V (k + 1) k = rdyF X (crT X K V k) (V k) (K k) := by show (if k = k then _ else _) = _; rw [if_pos rfl]
theorem crT_old (X : Nat → Int) (K : Nat → Nat) (V : Nat → Nat → Int) {k j : Nat} (h : j ≠ k) : crT X K V (k + 1) j = crT X K V k j := by show (if j = k then _ else _) = _; rw [if_neg h]
theorem crT_stay (X : Nat → Int) (K : Nat → Nat) (V : Nat → Nat → Int) (n : Nat) : ∀ d j, j < n → crT X K V (n + d) j = crT X K V n j := by
  intro d
  induction d with
  | zero => intro j _; rfl
  | succ d ih => intro j hj; rw [show n + (d + 1) = (n + d) + 1 from rfl, crT_old X K V (by omega), ih j hj]
theorem crT_at (X : Nat → Int) (K : Nat → Nat) (V : Nat → Nat → Int) {k n j : Nat} (hk : k ≤ n) (hj : j < k) : crT X K V n j = crT X K V k j := by
  have := crT_stay X K V k (n - k) j hj
  rw [show k + (n - k) = n by omega] at this
  exact this
theorem crT_in {n : Nat} {X : Nat → Int} {K : Nat → Nat} {V : Nat → Nat → Int} (h : ∀ j, j < n → jobB j X K V = true) : ∀ k, k ≤ n → ∀ j, 0 ≤ crT X K V k j ∧ crT X K V k j ≤ 1000 * (j : Int) := by
  intro k
  induction k with
  | zero => intro _ j; exact ⟨Int.le_refl _, (by show (0 : Int) ≤ _; omega)⟩
  | succ k ih =>
    intro hk j
    by_cases e : j = k
    · subst e
      rw [crT_new]
      have q := job_yes (h j (by omega))
      refine rdy_in (by omega) _ (fun i hi => ?_)
      have q1 := q.2.2 i hi
      have q2 := ih (by omega) (V j i).toNat
      have q3 := (job_yes (h (V j i).toNat (by omega))).1
      omega
    · rw [crT_old X K V e]
      exact ih (by omega) j
def lastF (X B : Nat → Int) : Nat → Int
  | 0 => 0
  | i + 1 => mxI (lastF X B i) (B i + X i)
theorem last_in {X B : Nat → Int} {h : Int} (h0 : 0 ≤ h) : ∀ k, (∀ i, i < k → B i + X i ≤ h) → 0 ≤ lastF X B k ∧ lastF X B k ≤ h := by
  intro k
  induction k with
  | zero => intro _; exact ⟨Int.le_refl _, h0⟩
  | succ k ih =>
    intro q
    have := ih (fun i hi => q i (by omega))
    exact ⟨mx_ge this.1, mx_le this.2 (q k (by omega))⟩
theorem last_same {X B B' : Nat → Int} : ∀ k, (∀ i, i < k → B i = B' i) → lastF X B k = lastF X B' k := by
  intro k
  induction k with
  | zero => intro _; rfl
  | succ k ih =>
    intro q
    show mxI _ _ = mxI _ _
    rw [ih (fun i hi => q i (by omega)), q k (by omega)]
def criV (n : Nat) (X : Nat → Int) (K : Nat → Nat) (V : Nat → Nat → Int) : Int := if jobsB n X K V = true then lastF X (crT X K V n) n else -1
theorem cri_no {n : Nat} {X : Nat → Int} {K : Nat → Nat} {V : Nat → Nat → Int} (h : jobsB n X K V = false) : criV n X K V = -1 := by unfold criV; rw [h]; rfl
theorem cri_yes {n : Nat} {X : Nat → Int} {K : Nat → Nat} {V : Nat → Nat → Int} (h : jobsB n X K V = true) : criV n X K V = lastF X (crT X K V n) n := by unfold criV; rw [h]; rfl
end Go.Proofs.YtffjhbgnhnnfiaaDoor
