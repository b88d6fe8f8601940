/-
What is proved: what plans cost, in numbers.
-/
import Derived.Test.YtdlbniihgppodaaMtS
import Derived.Test.YtdlbniihgppodaaAllIn
import Derived.Test.YtdlbniihgppodaaLBE
namespace Go.Proofs.Ytdlbniihgppodaa
set_option maxRecDepth 40000
open Go.ChangeShapes Go.WideShapes Go.ChangeAt Go.RowKit
set_option linter.unusedVariables false
set_option linter.unusedSimpArgs false

def ranF (O : Nat → Nat → Bool) : Nat → Nat → Int
  | 0, _ => 0
  | t + 1, i => if O t i = true then ranF O t i + 1 else 0
theorem ran_in (O : Nat → Nat → Bool) (t i : Nat) : 0 ≤ ranF O t i ∧ ranF O t i ≤ t := by
  induction t with
  | zero => exact ⟨Int.le_refl _, Int.le_refl _⟩
  | succ t ih => unfold ranF; split <;> omega
theorem ran_zero (O : Nat → Nat → Bool) (t i : Nat) : ranF O t i = 0 ↔ t = 0 ∨ O (t - 1) i = false := by
  cases t with
  | zero => exact ⟨fun _ => Or.inl rfl, fun _ => rfl⟩
  | succ t =>
    have h := ran_in O t i
    unfold ranF
    show _ ↔ t + 1 = 0 ∨ O t i = false
    cases O t i
    · simp
    · simp; omega
def stoB (V : Nat → Int × Int × Int × Int × Int) (O : Nat → Nat → Bool) (t i : Nat) : Bool := O t i || !(inB 1 ((V i).2.2.2.2 - 1) (ranF O t i))
def styB (n : Nat) (V : Nat → Int × Int × Int × Int × Int) (O : Nat → Nat → Bool) (t : Nat) : Bool := decide (∀ i, i < n → stoB V O t i = true)
def ldB (m : Nat) (W : Nat → Int) : Bool := inB 1 5 (m : Int) && allInB 0 300000 W m
def pcF (n : Nat) (V : Nat → Int × Int × Int × Int × Int) (O : Nat → Nat → Bool) (t : Nat) (ld : Int) (i : Nat) : Int := outV n V (O t) ld i * csF V i + (if (O t i && decide (ranF O t i = 0)) = true then (V i).2.2.2.1 else 0)
def perV (n : Nat) (V : Nat → Int × Int × Int × Int × Int) (O : Nat → Nat → Bool) (t : Nat) (ld : Int) : Int := sumF (pcF n V O t ld) n
def okT (n : Nat) (V : Nat → Int × Int × Int × Int × Int) (m : Nat) (W : Nat → Int) (no : Nat) (K : Nat → Nat) (O : Nat → Nat → Bool) (t : Nat) : Bool := meB n V (O t) (K t) (W t) && styB n V O t
def cotB (n : Nat) (V : Nat → Int × Int × Int × Int × Int) (m : Nat) (W : Nat → Int) (no : Nat) (K : Nat → Nat) (O : Nat → Nat → Bool) : Bool := plsB n V && (ldB m W && (decide (no = m) && decide (∀ t, t < m → okT n V m W no K O t = true)))
def costV (n : Nat) (V : Nat → Int × Int × Int × Int × Int) (m : Nat) (W : Nat → Int) (no : Nat) (K : Nat → Nat) (O : Nat → Nat → Bool) : Int := if cotB n V m W no K O = true then sumF (fun t => perV n V O t (W t)) m else -1
theorem cot_no {n : Nat} {V : Nat → Int × Int × Int × Int × Int} {m : Nat} {W : Nat → Int} {no : Nat} {K : Nat → Nat} {O : Nat → Nat → Bool} {t : Nat} (ht : t < m) (h : okT n V m W no K O t = false) : costV n V m W no K O = -1 := by
  have : cotB n V m W no K O = false := by
    unfold cotB
    have : decide (∀ t, t < m → okT n V m W no K O t = true) = false := decide_eq_false fun q => by have := q t ht; rw [h] at this; cases this
    rw [this]; simp
  unfold costV
  rw [this]
  rfl
theorem cot_off {n : Nat} {V : Nat → Int × Int × Int × Int × Int} {m : Nat} {W : Nat → Int} {no : Nat} {K : Nat → Nat} {O : Nat → Nat → Bool} (h : (plsB n V && (ldB m W && decide (no = m))) = false) : costV n V m W no K O = -1 := by
  have : cotB n V m W no K O = false := by
    unfold cotB
    rw [show ∀ a b c d : Bool, (a && (b && (c && d))) = ((a && (b && c)) && d) from by decide, h]
    rfl
  unfold costV
  rw [this]
  rfl
theorem ld_yes {m : Nat} {W : Nat → Int} (h : ldB m W = true) : 1 ≤ m ∧ m ≤ 5 ∧ ∀ j, j < m → 0 ≤ W j ∧ W j ≤ 300000 := by
  unfold ldB at h
  simp only [Bool.and_eq_true] at h
  have := inB_yes h.1
  exact ⟨by omega, by omega, allIn_yes h.2.symm⟩
theorem out_in {n : Nat} {V : Nat → Int × Int × Int × Int × Int} {P : Nat → Bool} {ld : Int} (h : ∀ i, i < n → plB (V i) = true) : ∀ i, i < n → 0 ≤ outV n V P ld i ∧ outV n V P ld i ≤ 100000 := fun i hi => by
  have h1 := ls_in (O := P) h i hi
  have h2 := giv_in (L := ld - sumF (lsF V P) n) (C := csF V) (n := n) (cap := cpF V P) (i := i) h1.2.2.1.1
  unfold outV
  omega
theorem mul_cost {a c : Int} (a0 : 0 ≤ a) (a1 : a ≤ 100000) (c0 : 0 ≤ c) (c1 : c ≤ 10000) : 0 ≤ a * c ∧ a * c ≤ 1000000000 := ⟨Int.mul_nonneg a0 c0, by
  have := Int.mul_le_mul a1 c1 c0 (by decide : (0 : Int) ≤ 100000)
  omega⟩
theorem pc_in {n : Nat} {V : Nat → Int × Int × Int × Int × Int} {O : Nat → Nat → Bool} {t : Nat} {ld : Int} (h : ∀ i, i < n → plB (V i) = true) : ∀ i, i < n → 0 ≤ pcF n V O t ld i ∧ pcF n V O t ld i ≤ 1100000000 := fun i hi => by
  have h1 := out_in (P := O t) (ld := ld) h i hi
  have h2 := pl_yes (h i hi)
  have h3 := mul_cost h1.1 h1.2 h2.2.2.1.1 h2.2.2.1.2
  unfold pcF csF
  split <;> omega
theorem per_in {n : Nat} {V : Nat → Int × Int × Int × Int × Int} {O : Nat → Nat → Bool} {t : Nat} {ld : Int} (hn : n ≤ 3) (h : ∀ i, i < n → plB (V i) = true) : 0 ≤ perV n V O t ld ∧ perV n V O t ld ≤ 3300000000 := by
  have := sum_in (f := pcF n V O t ld) (M := 1100000000) (pc_in h)
  unfold perV
  omega
theorem tot_in {n m : Nat} {V : Nat → Int × Int × Int × Int × Int} {O : Nat → Nat → Bool} {W : Nat → Int} {k : Nat} (hn : n ≤ 3) (hk : k ≤ m) (hm : m ≤ 5) (h : ∀ i, i < n → plB (V i) = true) : 0 ≤ sumF (fun t => perV n V O t (W t)) k ∧ sumF (fun t => perV n V O t (W t)) k ≤ 16500000000 := by
  have := sum_in (f := fun t => perV n V O t (W t)) (n := k) (M := 3300000000) (fun t _ => per_in hn h)
  omega
end Go.Proofs.Ytdlbniihgppodaa
