/-
What is proved: what units give, in numbers: it rises with the fall, so there is a least fall at which a load is reached.
-/
import Derived.Test.YtgekkblfnfclmaaIs
import Derived.Test.YtgekkblfnfclmaaRowI
namespace Go.Proofs.Ytgekkblfnfclmaa
set_option maxRecDepth 40000
open Go.RowKit
set_option linter.unusedVariables false

/-- What unit j gives at the fall f. -/
def gvV (V : Nat → Int) (f : Int) (j : Nat) : Int := min (V (j * 2)) (V (j * 2 + 1) * f)
def allV (V : Nat → Int) (f : Int) : Nat → Int
  | 0 => 0
  | n + 1 => allV V f n + gvV V f n
def unitB (V : Nat → Int) (j : Nat) : Bool := inB 0 1000000 (V (j * 2)) && inB 1 1000 (V (j * 2 + 1))
def unitsTo (V : Nat → Int) : Nat → Bool
  | 0 => true
  | n + 1 => unitsTo V n && unitB V n
theorem unit_yes {V : Nat → Int} {j : Nat} (h : unitB V j = true) : 0 ≤ V (j * 2) ∧ V (j * 2) ≤ 1000000 ∧ 1 ≤ V (j * 2 + 1) ∧ V (j * 2 + 1) ≤ 1000 := by
  unfold unitB at h
  rw [Bool.and_eq_true] at h
  exact ⟨(inB_yes h.1).1, (inB_yes h.1).2, (inB_yes h.2).1, (inB_yes h.2).2⟩
theorem units_at {V : Nat → Int} : ∀ {n : Nat}, unitsTo V n = true → ∀ j, j < n → unitB V j = true
  | 0, _, j, hj => by omega
  | n + 1, h, j, hj => by
    unfold unitsTo at h
    rw [Bool.and_eq_true] at h
    by_cases e : j = n
    · subst e; exact h.2
    · exact units_at h.1 j (by omega)
theorem units_no {V : Nat → Int} : ∀ {n k : Nat}, k < n → unitB V k = false → unitsTo V n = false
  | 0, _, hk, _ => by omega
  | n + 1, k, hk, h => by
    unfold unitsTo
    by_cases e : k = n
    · subst e; rw [h, Bool.and_false]
    · rw [units_no (n := n) (by omega) h, Bool.false_and]
theorem mul_rng {g f : Int} (h1 : 1 ≤ g) (h2 : g ≤ 1000) (f0 : 0 ≤ f) (f1 : f ≤ 1000000) : f ≤ g * f ∧ g * f ≤ 1000000000 := by
  have t1 : 1 * f ≤ g * f := Int.mul_le_mul_of_nonneg_right h1 f0
  have t2 : g * f ≤ 1000 * f := Int.mul_le_mul_of_nonneg_right h2 f0
  omega
theorem gv_bd {V : Nat → Int} {j : Nat} {f : Int} (h : unitB V j = true) (f0 : 0 ≤ f) (f1 : f ≤ 1000000) : 0 ≤ gvV V f j ∧ gvV V f j ≤ V (j * 2) := by
  obtain ⟨a, b, c, d⟩ := unit_yes h
  have := mul_rng c d f0 f1
  unfold gvV
  omega
theorem gv_le {V : Nat → Int} {j : Nat} {f f' : Int} (h : unitB V j = true) (hf : f ≤ f') : gvV V f j ≤ gvV V f' j := by
  obtain ⟨a, b, c, d⟩ := unit_yes h
  have : V (j * 2 + 1) * f ≤ V (j * 2 + 1) * f' := Int.mul_le_mul_of_nonneg_left hf (by omega)
  unfold gvV
  omega
theorem all_bd {V : Nat → Int} {f : Int} (f0 : 0 ≤ f) (f1 : f ≤ 1000000) : ∀ {n : Nat}, (∀ j, j < n → unitB V j = true) → 0 ≤ allV V f n ∧ allV V f n ≤ 1000000 * n
  | 0, _ => by unfold allV; omega
  | n + 1, h => by
    have a := all_bd f0 f1 (n := n) fun j hj => h j (by omega)
    have b := gv_bd (h n (by omega)) f0 f1
    have c := unit_yes (h n (by omega))
    unfold allV
    omega
theorem all_le {V : Nat → Int} {f f' : Int} (hf : f ≤ f') : ∀ {n : Nat}, (∀ j, j < n → unitB V j = true) → allV V f n ≤ allV V f' n
  | 0, _ => Int.le_refl _
  | n + 1, h => by
    have a := all_le hf (n := n) fun j hj => h j (by omega)
    have b := gv_le (h n (by omega)) hf
    unfold allV
    omega
/-- The least fall. -/
def LF (n : Nat) (V : Nat → Int) (load L : Int) : Prop := 0 ≤ L ∧ L ≤ 1000000 ∧ ∀ z, 0 ≤ z → z ≤ 1000000 → (load ≤ allV V z n ↔ L ≤ z)
theorem LF.one {n : Nat} {V : Nat → Int} {load L M : Int} (h : LF n V load L) (k : LF n V load M) : L = M := by
  have a := (h.2.2 M k.1 k.2.1).1 ((k.2.2 M k.1 k.2.1).2 (Int.le_refl _))
  have b := (k.2.2 L h.1 h.2.1).1 ((h.2.2 L h.1 h.2.1).2 (Int.le_refl _))
  omega
theorem lf_up {n : Nat} {V : Nat → Int} {load : Int} (hu : ∀ j, j < n → unitB V j = true) (he : load ≤ allV V 1000000 n) : ∀ (m : Nat) (l : Int), l = 1000000 - m → 0 ≤ l → (∀ z, 0 ≤ z → z < l → allV V z n < load) → ∃ L, LF n V load L
  | 0, l, e, h0, hl => ⟨l, h0, by omega, fun z z0 z1 => ⟨fun q => by
      rcases Int.lt_or_le z l with c | c
      · have := hl z z0 c; omega
      · exact c, fun q => by have : z = 1000000 := by omega
                             rw [this]; exact he⟩⟩
  | m + 1, l, e, h0, hl => by
    by_cases q : load ≤ allV V l n
    · refine ⟨l, h0, by omega, fun z z0 z1 => ⟨fun r => ?_, fun r => ?_⟩⟩
      · rcases Int.lt_or_le z l with c | c
        · have := hl z z0 c; omega
        · exact c
      · have := all_le (V := V) r hu; omega
    · refine lf_up hu he m (l + 1) (by omega) (by omega) fun z z0 z1 => ?_
      by_cases r : z = l
      · subst r; omega
      · exact hl z z0 (by omega)
def goF (n : Nat) (V : Nat → Int) (load : Int) : Prop := n ≤ 50 ∧ unitsTo V n = true ∧ 0 ≤ load ∧ load ≤ 50000000 ∧ load ≤ allV V 1000000 n
def FV (n : Nat) (V : Nat → Int) (load x : Int) : Prop := (¬ goF n V load ∧ x = -1) ∨ (goF n V load ∧ LF n V load x)
theorem FV.one {n : Nat} {V : Nat → Int} {load x y : Int} (h : FV n V load x) (k : FV n V load y) : x = y := by
  rcases h with ⟨h1, rfl⟩ | ⟨h1, h2⟩ <;> rcases k with ⟨k1, rfl⟩ | ⟨k1, k2⟩
  · rfl
  · exact absurd k1 h1
  · exact absurd h1 k1
  · exact h2.one k2
theorem lf_some {n : Nat} {V : Nat → Int} {load : Int} (h : goF n V load) : ∃ L, LF n V load L :=
  lf_up (units_at h.2.1) h.2.2.2.2 1000000 0 (by omega) (Int.le_refl _) fun z z0 z1 => by omega
theorem fv_some (n : Nat) (V : Nat → Int) (load : Int) : ∃ x, FV n V load x := by
  by_cases h : goF n V load
  · obtain ⟨L, hL⟩ := lf_some h
    exact ⟨L, .inr ⟨h, hL⟩⟩
  · exact ⟨-1, .inl ⟨h, rfl⟩⟩
end Go.Proofs.Ytgekkblfnfclmaa
