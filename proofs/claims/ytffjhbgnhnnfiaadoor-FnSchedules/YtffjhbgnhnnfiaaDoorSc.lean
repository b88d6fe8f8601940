/-
What is proved: schedules in numbers: when a job may begin, how many are under way.
-/
import Derived.Test.YtffjhbgnhnnfiaaDoorRo
import Derived.Test.YtffjhbgnhnnfiaaDoorJoI
import Derived.Test.YtffjhbgnhnnfiaaDoorJoS
namespace Go.Proofs.YtffjhbgnhnnfiaaDoor
set_option maxRecDepth 40000
open Go.ChangeShapes Go.WideShapes Go.ChangeAt Go.RowKit
set_option linter.unusedVariables false
set_option linter.unusedSimpArgs false

def ErrS (w : World) : Prop := ErrA w ∧ ErrG 0 w ∧ ErrG 1 w ∧ ErrG 2 w ∧ ErrG 3 w ∧ ErrG 4 w
theorem ErrS.below {w w' : World} (h : ErrS w) (hb : Below w.heap.size w w') : ErrS w' := ⟨h.1.below hb, h.2.1.below hb, h.2.2.1.below hb, h.2.2.2.1.below hb, h.2.2.2.2.1.below hb, h.2.2.2.2.2.below hb⟩
theorem ErrS.jobs {w : World} (h : ErrS w) : ErrJ w := ⟨h.1, h.2.1, h.2.2.1, h.2.2.2.1⟩
def freB (X B : Nat → Int) (v : Nat → Int) (k : Nat) (t : Int) : Bool := decide (∀ i, i < k → 0 ≤ B (v i).toNat ∧ B (v i).toNat + X (v i).toNat ≤ t)
theorem rdy_free {X B v : Nat → Int} {t : Int} (t0 : 0 ≤ t) : ∀ k, (rdyF X B v k ≤ t ↔ ∀ i, i < k → B (v i).toNat + X (v i).toNat ≤ t) := by
  intro k
  induction k with
  | zero => exact ⟨fun _ i hi => by omega, fun _ => t0⟩
  | succ k ih =>
    show mxI _ _ ≤ t ↔ _
    have g := mx_ge2 (rdyF X B v k) (B (v k).toNat + X (v k).toNat)
    constructor
    · intro h i hi
      by_cases e : i = k
      · subst e; omega
      · exact ih.1 (by omega) i (by omega)
    · intro h
      exact mx_le (ih.2 fun i hi => h i (by omega)) (h k (by omega))
theorem free_rdy {X B v : Nat → Int} {t : Int} {k : Nat} (t0 : 0 ≤ t) (hB : ∀ i, i < k → 0 ≤ B (v i).toNat) : freB X B v k t = decide (rdyF X B v k ≤ t) := by
  unfold freB
  congr 1
  exact propext ⟨fun h => (rdy_free t0 k).2 fun i hi => (h i hi).2, fun h i hi => ⟨hB i hi, (rdy_free t0 k).1 h i hi⟩⟩
/-- How many of the first k are under way, as the specification and as the program count. -/
def busS (X B : Nat → Int) (t : Int) : Nat → Int
  | 0 => 0
  | i + 1 => busS X B t i + if 0 ≤ B i ∧ B i ≤ t ∧ t < B i + X i then 1 else 0
def busI (X B : Nat → Int) (t : Int) : Nat → Int
  | 0 => 0
  | i + 1 => busI X B t i + if inB (B i) (B i + X i - 1) t = true then 1 else 0
theorem bus_in {X B : Nat → Int} {t : Int} : ∀ k : Nat, 0 ≤ busS X B t k ∧ busS X B t k ≤ k ∧ 0 ≤ busI X B t k ∧ busI X B t k ≤ k := by
  intro k
  induction k with
  | zero => exact ⟨Int.le_refl _, Int.le_refl _, Int.le_refl _, Int.le_refl _⟩
  | succ k ih =>
    show 0 ≤ busS X B t k + _ ∧ busS X B t k + _ ≤ _ ∧ 0 ≤ busI X B t k + _ ∧ busI X B t k + _ ≤ _
    split <;> split <;> omega
theorem bus_same {X B : Nat → Int} {t : Int} : ∀ k : Nat, (∀ i, i < k → 0 ≤ B i) → busS X B t k = busI X B t k := by
  intro k
  induction k with
  | zero => intro _; rfl
  | succ k ih =>
    intro h
    show busS X B t k + _ = busI X B t k + _
    rw [ih (fun i hi => h i (by omega))]
    have := h k (by omega)
    have e : (inB (B k) (B k + X k - 1) t = true) ↔ (0 ≤ B k ∧ B k ≤ t ∧ t < B k + X k) := ⟨fun q => by have := inB_yes q; omega, fun q => decide_eq_true (by omega)⟩
    by_cases q : 0 ≤ B k ∧ B k ≤ t ∧ t < B k + X k
    · rw [if_pos q, if_pos (e.2 q)]
    · rw [if_neg q, if_neg (fun z => q (e.1 z))]
def plnB (n : Nat) (X : Nat → Int) (K : Nat → Nat) (V : Nat → Nat → Int) (cr : Int) (B : Nat → Int) (j : Nat) : Bool := decide (rdyF X B (V j) (K j) ≤ B j) && decide (busI X B (B j) n ≤ cr)
def schB (n : Nat) (X : Nat → Int) (K : Nat → Nat) (V : Nat → Nat → Int) (cr : Int) (m : Nat) (B : Nat → Int) : Bool := jobsB n X K V && (inB 1 10 cr && (decide (m = n) && (allInB 0 100000 B m && decide (∀ j, j < n → plnB n X K V cr B j = true))))
end Go.Proofs.YtffjhbgnhnnfiaaDoor
