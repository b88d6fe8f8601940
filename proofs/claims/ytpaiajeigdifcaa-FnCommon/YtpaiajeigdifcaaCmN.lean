/-
What is proved: what fails by a set fails by a greater one; the list of what fails has just those places.
-/
import Derived.Test.YtpaiajeigdifcaaCm
namespace Go.Proofs.Ytpaiajeigdifcaa
set_option maxRecDepth 40000
open Go.ChangeShapes Go.WideShapes Go.ChangeAt Go.RowKit
set_option linter.unusedVariables false
set_option linter.unusedSimpArgs false

theorem set_bit (x : Nat) (U : Nat → Int) (i : Nat) : ∀ m, (setN x U m).testBit i = true ↔ ∃ r, r < m ∧ U r = (i : Int) ∧ i < x := by
  intro m
  induction m with
  | zero => exact ⟨fun h => (by simp [setN] at h), fun ⟨r, h, _⟩ => by omega⟩
  | succ m ih =>
    unfold setN
    split
    · rename_i h
      obtain ⟨h1, h2⟩ := inB_yes h
      rw [Nat.testBit_or, Bool.or_eq_true, ih]
      constructor
      · rintro (⟨r, r1, r2⟩ | h3)
        · exact ⟨r, by omega, r2⟩
        · have : (U m).toNat = i := by
            by_cases e : (U m).toNat = i
            · exact e
            · rw [Nat.testBit_two_pow_of_ne e] at h3; cases h3
          exact ⟨m, by omega, by omega, by omega⟩
      · rintro ⟨r, r1, r2, r3⟩
        by_cases e : r = m
        · subst e
          right
          have : (U r).toNat = i := by omega
          rw [this, Nat.testBit_two_pow_self]
        · left; exact ⟨r, by omega, r2, r3⟩
    · rename_i h
      rw [ih]
      constructor
      · rintro ⟨r, r1, r2⟩; exact ⟨r, by omega, r2⟩
      · rintro ⟨r, r1, r2, r3⟩
        by_cases e : r = m
        · subst e
          exfalso
          apply h
          unfold inB
          rw [r2]
          simp
          omega
        · exact ⟨r, by omega, r2, r3⟩
theorem cnt_mono {f g : Nat} (h : ∀ i, f.testBit i = true → g.testBit i = true) (v : Nat → Int) : ∀ j, cntB f v j ≤ cntB g v j := by
  intro j
  induction j with
  | zero => exact Int.le_refl _
  | succ j ih =>
    unfold cntB
    by_cases e : f.testBit (v j).toNat = true
    · rw [if_pos e, if_pos (h _ e)]; omega
    · rw [if_neg e]
      split <;> omega
theorem fl_mono {b b' x : Nat} {X : Nat → Int} {K : Nat → Nat} {V : Nat → Nat → Int} (h : ∀ i, b.testBit i = true → b'.testBit i = true) : ∀ k i, (fl b x X K V k).testBit i = true → (fl b' x X K V k).testBit i = true := by
  intro k
  induction k with
  | zero => exact h
  | succ k ih =>
    intro i hi
    have hc := cnt_mono ih (V k) (K k)
    by_cases e : X k ≤ cntB (fl b x X K V k) (V k) (K k)
    · have hi : (fl b x X K V k ||| 2 ^ (x + k)).testBit i = true := by
        have e1 : fl b x X K V (k + 1) = fl b x X K V k ||| 2 ^ (x + k) := by show (if _ then _ else _) = _; rw [if_pos e]
        rw [e1] at hi; exact hi
      have e2 : fl b' x X K V (k + 1) = fl b' x X K V k ||| 2 ^ (x + k) := by show (if _ then _ else _) = _; rw [if_pos (by omega)]
      rw [e2, Nat.testBit_or, Bool.or_eq_true]
      rw [Nat.testBit_or, Bool.or_eq_true] at hi
      rcases hi with q | q
      · exact Or.inl (ih i q)
      · exact Or.inr q
    · have hi : (fl b x X K V k).testBit i = true := by
        have e1 : fl b x X K V (k + 1) = fl b x X K V k := by show (if _ then _ else _) = _; rw [if_neg e]
        rw [e1] at hi; exact hi
      have h2 := ih i hi
      show (if X k ≤ cntB (fl b' x X K V k) (V k) (K k) then fl b' x X K V k ||| 2 ^ (x + k) else fl b' x X K V k).testBit i = true
      split
      · rw [Nat.testBit_or, h2]; rfl
      · exact h2
theorem fy_mono {x : Int} {n : Nat} {X : Nat → Int} {K : Nat → Nat} {V : Nat → Nat → Int} {m l : Nat} {U W : Nat → Int} (h : ∀ r, r < m → ∃ q, q < l ∧ W q = U r) (g : fyB x n X K V m U = true) : fyB x n X K V l W = true := by
  unfold fyB at g ⊢
  rw [Bool.and_eq_true] at g ⊢
  refine ⟨g.1, fl_mono (fun i hi => ?_) n _ g.2⟩
  obtain ⟨r, r1, r2, r3⟩ := (set_bit x.toNat U i m).1 hi
  obtain ⟨q, q1, q2⟩ := h r r1
  exact (set_bit x.toNat W i l).2 ⟨q, q1, q2.trans r2, r3⟩
theorem com_mem (f : Nat → Bool) (y : Int) : ∀ k, y ∈ comL f k ↔ ∃ i : Nat, i < k ∧ y = (i : Int) ∧ f i = true := by
  intro k
  induction k with
  | zero => exact ⟨fun h => (by cases h), fun ⟨i, h, _⟩ => by omega⟩
  | succ k ih =>
    unfold comL
    split
    · rename_i q
      rw [List.mem_append, ih]
      constructor
      · rintro (⟨i, h1, h2⟩ | h)
        · exact ⟨i, by omega, h2⟩
        · exact ⟨k, by omega, by simpa using h, q⟩
      · rintro ⟨i, h1, h2, h3⟩
        by_cases e : i = k
        · subst e; right; simp [h2]
        · left; exact ⟨i, by omega, h2, h3⟩
    · rename_i q
      rw [List.append_nil, ih]
      constructor
      · rintro ⟨i, h1, h2⟩; exact ⟨i, by omega, h2⟩
      · rintro ⟨i, h1, h2, h3⟩
        by_cases e : i = k
        · subst e; exact absurd h3 q
        · exact ⟨i, by omega, h2, h3⟩
def hasW (V : Nat → Int) (n : Nat) (x : Int) : Bool := decide (∃ j, j < n ∧ V j = x)
theorem has_mem (L : List Int) (x : Int) : hasW (nthI L) L.length x = decide (x ∈ L) := by
  unfold hasW
  congr 1
  apply propext
  constructor
  · rintro ⟨j, h1, h2⟩
    rw [← h2]
    unfold nthI
    rw [List.getD_eq_getElem?_getD, List.getElem?_eq_getElem h1]
    exact List.getElem_mem h1
  · intro h
    obtain ⟨j, h1, h2⟩ := List.mem_iff_getElem.1 h
    refine ⟨j, h1, ?_⟩
    unfold nthI
    rw [List.getD_eq_getElem?_getD, List.getElem?_eq_getElem h1]
    exact h2
theorem common_has {x : Int} {n : Nat} {X : Nat → Int} {K : Nat → Nat} {V : Nat → Nat → Int} {m : Nat} {KK : Nat → Nat} {VV : Nat → Nat → Int} {i : Nat} (hi : i < m) : hasW (nthI (commonL x n X K V m KK VV)) (commonL x n X K V m KK VV).length (i : Int) = (fyB x n X K V (KK i) (VV i) && decide ((m : Int) ≤ 100)) := by
  rw [has_mem]
  unfold commonL
  by_cases e : m ≤ 100
  · rw [if_pos e, decide_eq_true (show (m : Int) ≤ 100 by omega), Bool.and_true]
    cases q : fyB x n X K V (KK i) (VV i)
    · refine decide_eq_false fun h => ?_
      obtain ⟨i', _, h2, h3⟩ := (com_mem _ _ _).1 h
      have : i' = i := by omega
      subst this
      rw [q] at h3; cases h3
    · exact decide_eq_true ((com_mem _ _ _).2 ⟨i, hi, rfl, q⟩)
  · rw [if_neg e, decide_eq_false (show ¬ (m : Int) ≤ 100 by omega), Bool.and_false]
    exact decide_eq_false (by simp)
theorem common_some {x : Int} {n : Nat} {X : Nat → Int} {K : Nat → Nat} {V : Nat → Nat → Int} {m : Nat} {KK : Nat → Nat} {VV : Nat → Nat → Int} (h : (commonL x n X K V m KK VV).length ≠ 0) : ∃ i, i < m ∧ fyB x n X K V (KK i) (VV i) = true := by
  unfold commonL at h
  by_cases e : m ≤ 100
  · rw [if_pos e] at h
    cases q : comL (fun i => fyB x n X K V (KK i) (VV i)) m with
    | nil => rw [q] at h; exact absurd rfl h
    | cons y L =>
      obtain ⟨i, h1, _, h3⟩ := (com_mem (fun i => fyB x n X K V (KK i) (VV i)) y m).1 (by rw [q]; exact List.mem_cons_self ..)
      exact ⟨i, h1, h3⟩
  · rw [if_neg e] at h; exact absurd rfl h
end Go.Proofs.Ytpaiajeigdifcaa
