/-
What is proved: what Validate says does not ask what stands in a broken channel.
-/
import Derived.Test.YtaeajdhddklolaaVal
namespace Go.Proofs.Ytaeajdhddklolaa
set_option maxRecDepth 40000
open Go.ChangeShapes Go.WideShapes Go.ChangeAt Go.RowKit
set_option linter.unusedVariables false
set_option linter.unusedSimpArgs false

theorem cnt_ext {p q : Nat → Bool} : ∀ k, (∀ j, j < k → p j = q j) → cnt p k = cnt q k
  | 0, _ => rfl
  | k + 1, h => by
    show (if p k = true then cnt p k + 1 else cnt p k) = (if q k = true then cnt q k + 1 else cnt q k)
    rw [cnt_ext k (fun j hj => h j (by omega)), h k (by omega)]
def Swp (V U : Nat → Option Nat) (i : Nat) : Prop := (∀ j, j ≠ i → U j = V j) ∧ knP (V i) = false ∧ knP (U i) = false
theorem swp_kn {V U : Nat → Option Nat} {i : Nat} (h : Swp V U i) (j : Nat) : knP (U j) = knP (V j) := by
  by_cases e : j = i
  · subst e; rw [h.2.1, h.2.2]
  · rw [h.1 j e]
theorem swp_nb {V U : Nat → Option Nat} {i : Nat} (h : Swp V U i) (a : Option Nat) (j k : Nat) : nbB U a j k = nbB V a j k := by
  unfold nbB
  rw [swp_kn h j, swp_kn h k]
  by_cases e : j = i
  · subst e; rw [h.2.1]; rfl
  · by_cases e2 : k = i
    · subst e2; rw [h.2.1]; simp
    · rw [h.1 j e, h.1 k e2]
theorem swp_fr {V U : Nat → Option Nat} {i : Nat} (h : Swp V U i) (a : Option Nat) (n j : Nat) : frN U a n j = frN V a n j := cnt_ext n fun k _ => swp_nb h a j k
theorem swp_bst {V U : Nat → Option Nat} {i : Nat} (h : Swp V U i) (a : Option Nat) (n : Nat) : ∀ k, bstN U a n k = bstN V a n k
  | 0 => rfl
  | k + 1 => by
    show (if frN U a n (bstN U a n k) < frN U a n k then k else bstN U a n k) = (if frN V a n (bstN V a n k) < frN V a n k then k else bstN V a n k)
    rw [swp_bst h a n k, swp_fr h, swp_fr h]
theorem swp_good {V U : Nat → Option Nat} {i : Nat} (h : Swp V U i) (a : Option Nat) (n : Nat) : goodB U a n = goodB V a n := by
  unfold goodB
  rw [swp_bst h, swp_fr h]
theorem swp_flg {V U : Nat → Option Nat} {i : Nat} (h : Swp V U i) (a : Option Nat) (n j : Nat) : flgB U a n j = flgB V a n j := by
  unfold flgB
  rw [swp_good h, swp_bst h, swp_nb h, swp_kn h]
theorem th_ext {V U : Nat → Option Nat} {p q : Nat → Bool} : ∀ k, (∀ j, j < k → p j = q j) → (∀ j, j < k → q j = true → U j = V j) → thL U p k = thL V q k
  | 0, _, _ => rfl
  | k + 1, h, g => by
    show (if p k = true then thL U p k ++ [U k] else thL U p k) = (if q k = true then thL V q k ++ [V k] else thL V q k)
    rw [th_ext k (fun j hj => h j (by omega)) (fun j hj => g j (by omega)), h k (by omega)]
    by_cases e : q k = true
    · rw [if_pos e, if_pos e, g k (by omega) e]
    · rw [if_neg e, if_neg e]
theorem swp_va {V U : Nat → Option Nat} {i : Nat} (h : Swp V U i) (a : Option Nat) (n z : Nat) : vaG U a n z = vaG V a n z ∧ vaQ U a n z = vaQ V a n z := by
  have e : vaG U a n z = vaG V a n z := by unfold vaG; rw [swp_good h]
  refine ⟨e, ?_⟩
  unfold vaQ
  rw [e]
  by_cases g : vaG V a n z = true
  · rw [if_pos g, if_pos g, swp_bst h, swp_fr h]
    have gg : goodB V a n = true := by unfold vaG at g; simp only [Bool.and_eq_true] at g; exact g.2
    rw [th_ext (V := V) (q := flgB V a n) n (fun j _ => swp_flg h a n j) (fun j _ hj => h.1 j (fun e => by
      subst e
      unfold flgB nbB at hj
      rw [if_pos gg, h.2.1] at hj
      simp at hj))]
  · rw [if_neg g, if_neg g]
end Go.Proofs.Ytaeajdhddklolaa
