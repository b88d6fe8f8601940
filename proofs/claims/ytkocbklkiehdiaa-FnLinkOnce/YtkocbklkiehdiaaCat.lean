/-
What is proved: two rows of numbers behind one another; a row's cells by their places.
-/
import Derived.Test.YtkocbklkiehdiaaLst
namespace Go.Proofs.Ytkocbklkiehdiaa
set_option maxRecDepth 40000
open Go.ChangeShapes Go.WideShapes Go.ChangeAt Go.RowKit
set_option linter.unusedVariables false
set_option linter.unusedSimpArgs false

def catU (U : Nat → Int) (m : Nat) (X : Nat → Int) (j : Nat) : Int := if j < m then U j else X (j - m)
theorem vals_catN (U : Nat → Int) (m : Nat) (X : Nat → Int) : ∀ n, vals (catU U m X) (m + n) = vals U m ++ vals X n
  | 0 => by
    rw [Nat.add_zero]
    show _ = vals U m ++ []
    rw [List.append_nil]
    unfold vals
    refine List.map_congr_left fun j hj => ?_
    have : j < m := by simpa using hj
    unfold catU
    rw [if_pos this]
  | n + 1 => by
    rw [← Nat.add_assoc, vals_succ, vals_catN U m X n, vals_succ, List.append_assoc]
    have e : catU U m X (m + n) = X n := by unfold catU; rw [if_neg (by omega), show m + n - m = n by omega]
    rw [e]
theorem vals_cat (U : Nat → Int) (k n M : Nat) (X : Nat → Int) : vals (catU U (k * M) X) ((k + n) * M) = vals U (k * M) ++ vals X (n * M) := by
  rw [Nat.add_mul, vals_catN]
theorem row_addL {w : World} {ad : Addr} {n : Nat} {V : Nat → Int} (R : RowI w (some ad) n V) : ∀ j u, (vals V n)[j]? = some u → w.cell? (ad.add j) = some u := fun j u hu => by
  have hj : j < n := by
    rcases Nat.lt_or_ge j n with h | h
    · exact h
    · rw [List.getElem?_eq_none (by rw [vals_length]; exact h)] at hu; cases hu
  rw [vals_at V hj] at hu
  cases hu
  obtain ⟨b, o, e, _, hc⟩ := R j hj
  cases e
  have : (⟨b, o, none⟩ : Addr).add j = ⟨b, o + j, none⟩ := by
    unfold Addr.add
    split
    · rename_i h; subst h; rfl
    · rfl
  rw [this]
  exact hc
end Go.Proofs.Ytkocbklkiehdiaa
