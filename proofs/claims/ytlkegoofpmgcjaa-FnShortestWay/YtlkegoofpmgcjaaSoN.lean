/-
What is proved: along the shortest way each step leads to the next one, the last one to the mode; where none is told the mode is no end.
-/
import Derived.Test.YtlkegoofpmgcjaaSoM
import Derived.Test.YtlkegoofpmgcjaaEnM
namespace Go.Proofs.Ytlkegoofpmgcjaa
set_option maxRecDepth 40000
open Go.ChangeShapes Go.WideShapes Go.ChangeAt Go.RowKit
set_option linter.unusedVariables false
set_option linter.unusedSimpArgs false

theorem rt_rc {n : Nat} {V : Nat → Int} {md : Int} (hp : planB n V = true) (hm : -3 ≤ md ∧ md ≤ -1) : ∀ (l : List Nat), (∀ p, p ∈ l → p < n) → ∀ i, (rtR V md l i).1 = rcR V md l i
  | [], _, i => rfl
  | p :: l, hl, i => by
    have ih := rt_rc hp hm l (fun q hq => hl q (List.mem_cons_of_mem _ hq))
    have hpn := hl p (List.mem_cons_self ..)
    have g : ∀ X : Int, ((modB X = true ∧ -3 ≤ X ∧ X ≤ -1) ∨ (modB X = false ∧ (p : Int) + 1 ≤ X ∧ X ≤ (n : Int) - 1)) → (gR md (rtR V md l) X).1 = hitB (rcR V md l) md X := fun X hX => by
      unfold gR hitB
      rcases hX with ⟨m, h1, h2⟩ | ⟨m, h1, h2⟩
      · rw [if_pos m, decide_eq_false (show ¬ 0 ≤ X by omega)]; simp
      · rw [if_neg (by rw [m]; simp), decide_eq_true (show 0 ≤ X by omega), show (X == md) = false by simp; omega, ih]; simp
    show (if i = p then rtS V md (rtR V md l) p else rtR V md l i).1 = updBo (rcR V md l) p _ i
    unfold updBo
    by_cases e : i = p
    · rw [if_pos e, if_pos e, ← g _ (pln_to hp hpn 3 (.inl rfl)), ← g _ (pln_to hp hpn 4 (.inr rfl))]
      unfold rtS frR btR
      cases h1 : (gR md (rtR V md l) (V (p * 5 + 3))).1 <;> cases h2 : (gR md (rtR V md l) (V (p * 5 + 4))).1 <;> simp [h1, h2]
      split <;> simp [h1, h2]
    · rw [if_neg e, if_neg e]; exact ih i
theorem no_end {n : Nat} {V : Nat → Int} {md : Int} (hp : planB n V = true) (h : shV n V md = []) : md ∉ endV n V 0 := by
  intro hx
  have hy := plan_yes hp
  have hn : 0 < n := by omega
  have e0 : endV n V 0 = etR V (pls (dA n hn n)) 0 := endV_yes hp (by omega) (by omega) hn
  rw [e0] at hx
  have hm := (et_good V (pls (dA n hn n)) 0).2 md hx
  have hmd : modB md = true := by unfold modB inB; simp; omega
  rw [shV_yes hp hmd hn] at h
  have h1 := (et_rc hp hm (pls (dA n hn n)) (pls_in _) 0).1 hx
  rw [← rt_rc hp hm (pls (dA n hn n)) (pls_in _) 0] at h1
  obtain ⟨r, hr⟩ := ((rt_good V md (pls (dA n hn n))) 0).2.1 h1
  rw [h] at hr
  cases hr
theorem way_step {n : Nat} {V : Nat → Int} {md : Int} (hn : 0 < n) (hp : planB n V = true) {k : Nat} {R : List Int} (hk : k < n) (hT : rtR V md (pls (dA n hn n)) k = (true, R)) : ∃ r, R = (k : Int) :: r ∧ ((r = [] ∧ (V (k * 5 + 3) = md ∨ V (k * 5 + 4) = md)) ∨ (∃ (k' : Nat) (r' : List Int), k' < n ∧ r = (k' : Int) :: r' ∧ (V (k * 5 + 3) = (k' : Int) ∨ V (k * 5 + 4) = (k' : Int)) ∧ rtR V md (pls (dA n hn n)) k' = (true, r))) := by
  have hf := rt_fix (md := md) hn hp hk
  have hg := rt_good V md (pls (dA n hn n))
  rw [hT] at hf
  unfold rtS frR at hf
  obtain ⟨T, hTT⟩ : ∃ T, rtR V md (pls (dA n hn n)) = T := ⟨_, rfl⟩
  rw [hTT] at hf hg hT ⊢
  by_cases q : (btR (gR md T (V (k * 5 + 3))) (gR md T (V (k * 5 + 4)))).1 = true
  · rw [if_pos q] at hf
    refine ⟨_, by injection hf, ?_⟩
    have one : ∀ X : Int, ((modB X = true ∧ -3 ≤ X ∧ X ≤ -1) ∨ (modB X = false ∧ (k : Int) + 1 ≤ X ∧ X ≤ (n : Int) - 1)) → (gR md T X).1 = true → ((gR md T X).2 = [] ∧ X = md) ∨ (∃ (k' : Nat) (r' : List Int), k' < n ∧ (gR md T X).2 = (k' : Int) :: r' ∧ X = (k' : Int) ∧ T k' = (true, (gR md T X).2)) := fun X hX h1 => by
      by_cases he : (gR md T X).2 = []
      · left
        refine ⟨he, ?_⟩
        rcases hX with ⟨m, _⟩ | ⟨m, h2, h3⟩
        · unfold gR at h1; rw [if_pos m] at h1; simpa using h1
        · exfalso
          unfold gR at h1 he
          rw [if_neg (by rw [m]; simp)] at h1 he
          obtain ⟨r, hr⟩ := (hg X.toNat).2.1 h1
          rw [he] at hr; cases hr
      · right
        obtain ⟨k', e, kn, eT, r', hr⟩ := gR_head hg hX h1 he
        refine ⟨k', r', kn, by rw [hr, e], e, ?_⟩
        rw [← eT, ← h1]
    rcases bt_one (gR md T (V (k * 5 + 3))) (gR md T (V (k * 5 + 4))) with e | e
    · rw [e] at q ⊢
      rcases one _ (pln_to hp hk 3 (.inl rfl)) q with ⟨h1, h2⟩ | ⟨k', r', h1, h2, h3, h4⟩
      · exact .inl ⟨h1, .inl h2⟩
      · exact .inr ⟨k', r', h1, h2, .inl h3, h4⟩
    · rw [e] at q ⊢
      rcases one _ (pln_to hp hk 4 (.inr rfl)) q with ⟨h1, h2⟩ | ⟨k', r', h1, h2, h3, h4⟩
      · exact .inl ⟨h1, .inr h2⟩
      · exact .inr ⟨k', r', h1, h2, .inr h3, h4⟩
  · rw [if_neg q] at hf
    injection hf with h1 _
    cases h1
def nxW (L : List Int) (md : Int) (i : Nat) : Int := if i + 1 < L.length then L.getD (i + 1) 0 else md
/-- What is told of a way that is not empty. -/
theorem way_all {n : Nat} {V : Nat → Int} {md : Int} (hp : planB n V = true) (hne : shV n V md ≠ []) : (∀ i, i < (shV n V md).length → ∃ k : Nat, k < n ∧ (shV n V md).getD i 0 = (k : Int) ∧ (V (k * 5 + 3) = nxW (shV n V md) md i ∨ V (k * 5 + 4) = nxW (shV n V md) md i)) ∧ (shV n V md).getD 0 0 = 0 := by
  have hy := plan_yes hp
  have hn : 0 < n := by omega
  have hmd : modB md = true := by
    cases q : modB md
    · exact absurd (shV_no (fun h => by rw [q] at h; exact absurd h.2 (by simp))) hne
    · rfl
  rw [shV_yes hp hmd hn] at hne ⊢
  have hg := rt_good V md (pls (dA n hn n))
  have h0 : rtR V md (pls (dA n hn n)) 0 = (true, (rtR V md (pls (dA n hn n)) 0).2) := by
    cases hc : (rtR V md (pls (dA n hn n)) 0).1
    · exact absurd ((hg 0).2.2 hc) hne
    · rw [← hc]
  obtain ⟨R, hR⟩ : ∃ R, (rtR V md (pls (dA n hn n)) 0).2 = R := ⟨_, rfl⟩
  rw [hR] at h0 hne ⊢
  have chain : ∀ j, j < R.length → ∃ k : Nat, k < n ∧ rtR V md (pls (dA n hn n)) k = (true, R.drop j) := by
    intro j
    induction j with
    | zero => exact fun _ => ⟨0, hn, h0⟩
    | succ j ih =>
      intro hj
      obtain ⟨k, hk, hT⟩ := ih (by omega)
      obtain ⟨r, e, h | ⟨k', r', kn, e2, -, hT'⟩⟩ := way_step hn hp hk hT
      · exfalso
        have := congrArg List.length e
        rw [h.1] at this
        simp at this
        omega
      · refine ⟨k', kn, ?_⟩
        rw [hT', ← List.tail_drop, e]; rfl
  constructor
  · intro i hi
    obtain ⟨k, hk, hT⟩ := chain i hi
    obtain ⟨r, e, h⟩ := way_step hn hp hk hT
    have e1 : R.getD i 0 = (k : Int) := by
      have : (R.drop i)[0]? = some (k : Int) := by rw [e]; rfl
      rw [List.getElem?_drop, Nat.add_zero] at this
      rw [List.getD_eq_getElem?_getD, this]; rfl
    have el : R.length = i + 1 + r.length := by have := congrArg List.length e; simp at this; omega
    refine ⟨k, hk, e1, ?_⟩
    unfold nxW
    rcases h with ⟨h1, h2⟩ | ⟨k', r', kn, e2, h2, -⟩
    · rw [if_neg (by rw [el, h1]; simp)]
      exact h2
    · rw [if_pos (by rw [el, e2]; simp)]
      have : (R.drop i)[1]? = some (k' : Int) := by rw [e, e2]; rfl
      rw [List.getElem?_drop] at this
      rw [List.getD_eq_getElem?_getD, this]
      exact h2
  · obtain ⟨r, hr⟩ := (hg 0).2.1 (by rw [h0])
    rw [h0] at hr
    simp only at hr
    rw [hr]; rfl
end Go.Proofs.Ytlkegoofpmgcjaa
