/-
What is proved: what code keeps in a cell stays there.
-/
import Derived.Test.YtdidgbibbkhnhaaEx
namespace Go.Proofs.Ytdidgbibbkhnhaa
set_option maxRecDepth 40000
open Go.ChangeShapes Go.WideShapes Go.ChangeAt Go.RowKit
set_option linter.unusedVariables false
set_option linter.unusedSimpArgs false

theorem co_not {C I : Int} {K : Nat → Bool} {h op n : Int} (q : ctB C I K h op n = true) (o6 : ¬ (op = 1 ∨ op = 2 ∨ op = 3 ∨ op = 4 ∨ op = 5)) : op = 6 ∧ K n.toNat = false := by
  have hb := (ct_yes q).1
  have e6 : op = 6 := by
    apply Classical.byContradiction
    intro ne
    unfold cbB at hb
    rw [if_neg (by omega), if_neg (by omega), if_neg (by omega), if_neg (by omega)] at hb
    cases hb
  refine ⟨e6, ?_⟩
  unfold ctB at q
  subst e6
  cases hK : K n.toNat
  · rfl
  · rw [hK] at q; simp at q
theorem keep_on {n a b : Nat} {V O I : Nat → Int} {i : Nat} (h : ∀ j, j < n → coJ (a : Int) (b : Int) V j = true) (h6 : V (i * 2) = 6) : ∀ k, i < k → k ≤ n → (coK V k).1 (V (i * 2 + 1)).toNat = true ∧ (exK V O I k).N (V (i * 2 + 1)).toNat = (exK V O I (i + 1)).N (V (i * 2 + 1)).toNat
  | 0, h0, _ => by omega
  | k + 1, h0, h1 => by
    by_cases e : i = k
    · subst e
      refine ⟨?_, rfl⟩
      show nxK (coK V i).1 (V (i * 2)) (V (i * 2 + 1)) _ = true
      unfold nxK
      rw [if_pos h6]
      simp
    · obtain ⟨i1, i2⟩ := keep_on (O := O) (I := I) h h6 k (by omega) (by omega)
      have hc := h k (by omega)
      constructor
      · show nxK (coK V k).1 (V (k * 2)) (V (k * 2 + 1)) _ = true
        unfold nxK
        split
        · simp [i1]
        · exact i1
      · rw [← i2]
        show (exN O I (exK V O I k) (V (k * 2)) (V (k * 2 + 1))).N _ = _
        unfold exN
        by_cases o1 : V (k * 2) = 1
        · rw [if_pos o1]
        by_cases o2 : V (k * 2) = 2
        · rw [if_neg o1, if_pos o2]
        by_cases o3 : V (k * 2) = 3
        · rw [if_neg o1, if_neg o2, if_pos o3]
        by_cases o4 : V (k * 2) = 4
        · rw [if_neg o1, if_neg o2, if_neg o3, if_pos o4]
        by_cases o5 : V (k * 2) = 5
        · rw [if_neg o1, if_neg o2, if_neg o3, if_neg o4, if_pos o5]
        rw [if_neg o1, if_neg o2, if_neg o3, if_neg o4, if_neg o5]
        have hk := (co_not hc (by omega)).2
        show seF _ _ _ _ = _
        unfold seF
        rw [if_neg (fun q => by rw [q] at i1; rw [i1] at hk; cases hk)]
theorem ex_parts {n a b : Nat} {V O I : Nat → Int} (h : exB n V a O b I = true) : codeB n V (a : Int) (b : Int) = true ∧ smB a O = true ∧ smB b I = true := by
  unfold exB at h
  simpa using h
theorem ex_small {n a b : Nat} {V O I : Nat → Int} (h : exB n V a O b I = true) : ∀ j, j < a → -1000000 ≤ (exK V O I n).N j ∧ (exK V O I n).N j ≤ 1000000 := by
  obtain ⟨h1, h2, h3⟩ := ex_parts h
  exact (ex_ok (n := n) (sm_yes h2) (sm_yes h3) n (code_yes h1).2.2.2.1).2.2
theorem ex_cut {n a b i : Nat} {V O I : Nat → Int} (h : exB n V a O b I = true) (hi : i < n) (h6 : V (i * 2) = 6) (hc : codeB (i + 1) V (a : Int) (b : Int) = true) : exB (i + 1) V a O b I = true ∧ (∃ M : Nat, V (i * 2 + 1) = (M : Int) ∧ M < a ∧ (exK V O I (i + 1)).N M = (exK V O I n).N M) := by
  obtain ⟨h1, h2, h3⟩ := ex_parts h
  have hj := (code_yes h1).2.2.2.1
  have hb := (ct_yes (hj i hi)).1
  unfold cbB at hb
  rw [if_pos (by omega)] at hb
  have hr := inB_yes hb
  refine ⟨by unfold exB; rw [hc, h2, h3]; rfl, (V (i * 2 + 1)).toNat, by omega, by omega, ?_⟩
  exact (keep_on hj h6 n hi (Nat.le_refl _)).2.symm
end Go.Proofs.Ytdidgbibbkhnhaa
