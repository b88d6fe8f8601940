/-
What is proved: the shares of the units are together just the load; none is below 0 or above its most; at one fall less the units give less than the load.
-/
import Derived.Test.YtgekkblfnfclmaaSh
namespace Go.Proofs.Ytgekkblfnfclmaa
set_option maxRecDepth 40000
open Go.RowKit
set_option linter.unusedVariables false

def sumTo (V : Nat → Int) : Nat → Int
  | 0 => 0
  | k + 1 => sumTo V k + V k
def difV (V : Nat → Int) (f : Int) : Nat → Int
  | 0 => 0
  | k + 1 => difV V f k + (gvV V f k - prvV V f k)
theorem m_max {V : Nat → Int} {f m0 : Int} (f0 : 0 ≤ f) (f1 : f ≤ 1000000) (hm : 0 ≤ m0) : ∀ {k : Nat}, (∀ j, j < k → unitB V j = true) → mV V f m0 k = max 0 (m0 - difV V f k)
  | 0, _ => by unfold mV difV; omega
  | k + 1, h => by
    have a := m_max f0 f1 hm (k := k) fun j hj => h j (by omega)
    have b := prv_bd (h k (by omega)) f0 f1
    show mV V f m0 k - min (mV V f m0 k) (gvV V f k - prvV V f k) = max 0 (m0 - (difV V f k + (gvV V f k - prvV V f k)))
    omega
theorem sum_sh {V : Nat → Int} {f m0 : Int} : ∀ (k : Nat), sumTo (shV V f m0) k = allV V f k - (m0 - mV V f m0 k)
  | 0 => by unfold sumTo allV mV; omega
  | k + 1 => by
    have a := sum_sh (V := V) (f := f) (m0 := m0) k
    show sumTo (shV V f m0) k + (gvV V f k - nV V f (mV V f m0 k) k) = (allV V f k + gvV V f k) - (m0 - (mV V f m0 k - nV V f (mV V f m0 k) k))
    omega
theorem dif_all {V : Nat → Int} {f : Int} (hf : 0 < f) : ∀ (k : Nat), difV V f k = allV V f k - allV V (f - 1) k
  | 0 => by unfold difV allV; omega
  | k + 1 => by
    have a := dif_all (V := V) hf k
    have e : prvV V f k = gvV V (f - 1) k := if_pos hf
    show difV V f k + (gvV V f k - prvV V f k) = (allV V f k + gvV V f k) - (allV V (f - 1) k + gvV V (f - 1) k)
    omega
theorem all_zero {V : Nat → Int} : ∀ {k : Nat}, (∀ j, j < k → unitB V j = true) → allV V 0 k = 0
  | 0, _ => rfl
  | k + 1, h => by
    have a := all_zero (k := k) fun j hj => h j (by omega)
    obtain ⟨q1, q2, q3, q4⟩ := unit_yes (h k (by omega))
    have e : gvV V 0 k = 0 := by unfold gvV; rw [Int.mul_zero]; omega
    show allV V 0 k + gvV V 0 k = 0
    omega
theorem dif_zero {V : Nat → Int} : ∀ {k : Nat}, (∀ j, j < k → unitB V j = true) → difV V 0 k = 0
  | 0, _ => rfl
  | k + 1, h => by
    have a := dif_zero (k := k) fun j hj => h j (by omega)
    obtain ⟨q1, q2, q3, q4⟩ := unit_yes (h k (by omega))
    have e : gvV V 0 k = 0 := by unfold gvV; rw [Int.mul_zero]; omega
    have p : prvV V 0 k = 0 := if_neg (by omega)
    show difV V 0 k + (gvV V 0 k - prvV V 0 k) = 0
    omega
theorem lf_less {n : Nat} {V : Nat → Int} {load f : Int} (h : LF n V load f) (hf : 0 < f) : allV V (f - 1) n < load := by
  rcases Int.lt_or_le (allV V (f - 1) n) load with c | c
  · exact c
  · have := (h.2.2 (f - 1) (by omega) (by have := h.2.1; omega)).1 c
    omega
theorem sum_load {n : Nat} {V : Nat → Int} {load f : Int} (hu : ∀ j, j < n → unitB V j = true) (l0 : 0 ≤ load) (h : LF n V load f) : sumTo (shV V f (allV V f n - load)) n = load := by
  have ax : load ≤ allV V f n := (h.2.2 f h.1 h.2.1).2 (Int.le_refl _)
  rw [sum_sh, m_max h.1 h.2.1 (by omega) hu]
  by_cases hf : 0 < f
  · have a := lf_less h hf
    rw [dif_all hf]
    omega
  · have e : f = 0 := by have := h.1; omega
    subst e
    have z := all_zero hu
    have d := dif_zero hu
    omega
theorem sh_in {V : Nat → Int} {f m0 : Int} {n j : Nat} (hu : ∀ j, j < n → unitB V j = true) (f0 : 0 ≤ f) (f1 : f ≤ 1000000) (hm : 0 ≤ m0) (hj : j < n) : 0 ≤ shV V f m0 j ∧ shV V f m0 j ≤ V (j * 2) := by
  have a := m_bd (V := V) f0 f1 hm (k := j) fun i hi => hu i (by omega)
  have b := n_bd (hu j hj) f0 f1 a.1
  have c := gv_bd (hu j hj) f0 f1
  unfold shV
  omega
theorem sum_bd {V : Nat → Int} {n : Nat} (h : ∀ j, j < n → 0 ≤ V j ∧ V j ≤ 1000000) : ∀ k, k ≤ n → 0 ≤ sumTo V k ∧ sumTo V k ≤ 1000000 * k
  | 0, _ => by unfold sumTo; omega
  | k + 1, hk => by
    have a := sum_bd h k (by omega)
    have b := h k (by omega)
    show 0 ≤ sumTo V k + V k ∧ sumTo V k + V k ≤ _
    omega
end Go.Proofs.Ytgekkblfnfclmaa
