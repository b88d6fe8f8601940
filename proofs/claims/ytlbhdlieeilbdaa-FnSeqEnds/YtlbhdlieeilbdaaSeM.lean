/-
What is proved: a run of as many ticks as the bound tells, without hold, ends in a mode that is told.
-/
import Derived.Test.YtlbhdlieeilbdaaEnM
import Derived.Test.YtlbhdlieeilbdaaBnI
import Derived.Test.YtlbhdlieeilbdaaSrX
namespace Go.Proofs.Ytlbhdlieeilbdaa
set_option maxRecDepth 40000
open Go.ChangeShapes Go.WideShapes Go.ChangeAt Go.RowKit
set_option linter.unusedVariables false
set_option linter.unusedSimpArgs false

theorem updI_offM (T : Nat → Int) {p j : Nat} (x : Int) (h : j ≠ p) : updI T p x j = T j := by unfold updI; rw [if_neg h]
theorem updL_off (T : Nat → List Int) {p j : Nat} (x : List Int) (h : j ≠ p) : updL T p x j = T j := by unfold updL; rw [if_neg h]
theorem tab_keep {V : Nat → Int} {n : Nat} {hn : 0 < n} {k : Nat} : ∀ (d i : Nat), k + d ≤ n → n - k ≤ i → i < n → tabR V (pls (dA n hn (k + d))) i = tabR V (pls (dA n hn k)) i
  | 0, _, _, _, _ => rfl
  | d + 1, i, h1, h2, h3 => by
    rw [show k + (d + 1) = k + d + 1 by omega, dA_succ, pls_snoc]
    show updI (tabR V (pls (dA n hn (k + d)))) (n - 1 - (k + d)) _ i = _
    rw [updI_offM _ _ (by omega)]
    exact tab_keep d i (by omega) h2 h3
theorem et_keep {V : Nat → Int} {n : Nat} {hn : 0 < n} {k : Nat} : ∀ (d i : Nat), k + d ≤ n → n - k ≤ i → i < n → etR V (pls (dA n hn (k + d))) i = etR V (pls (dA n hn k)) i
  | 0, _, _, _, _ => rfl
  | d + 1, i, h1, h2, h3 => by
    rw [show k + (d + 1) = k + d + 1 by omega, dA_succ, pls_snoc]
    show updL (etR V (pls (dA n hn (k + d)))) (n - 1 - (k + d)) _ i = _
    rw [updL_off _ _ (by omega)]
    exact et_keep d i (by omega) h2 h3
theorem tab_fix {V : Nat → Int} {n : Nat} (hn : 0 < n) (hp : planB n V = true) {p : Nat} (h : p < n) : tabR V (pls (dA n hn n)) p = bndS V (tabR V (pls (dA n hn n))) p := by
  have e1 : tabR V (pls (dA n hn n)) p = tabR V (pls (dA n hn (n - 1 - p + 1))) p := by
    have := tab_keep (V := V) (hn := hn) (k := n - 1 - p + 1) p p (by omega) (by omega) h
    rw [show n - 1 - p + 1 + p = n by omega] at this
    exact this
  have g : ∀ X : Int, ((modB X = true ∧ -3 ≤ X ∧ X ≤ -1) ∨ (modB X = false ∧ (p : Int) + 1 ≤ X ∧ X ≤ (n : Int) - 1)) → gAt (tabR V (pls (dA n hn n))) X = gAt (tabR V (pls (dA n hn (n - 1 - p)))) X := fun X hX => by
    unfold gAt
    rcases hX with ⟨m, _⟩ | ⟨m, h1, h2⟩
    · rw [if_pos m, if_pos m]
    · rw [if_neg (by rw [m]; simp), if_neg (by rw [m]; simp)]
      have := tab_keep (V := V) (hn := hn) (k := n - 1 - p) (p + 1) X.toNat (by omega) (by omega) (by omega)
      rw [show n - 1 - p + (p + 1) = n by omega] at this
      exact this
  rw [e1, dA_succ, pls_snoc]
  show updI _ (n - 1 - (n - 1 - p)) _ p = _
  unfold updI
  rw [if_pos (by omega)]
  show bndS V (tabR V (pls (dA n hn (n - 1 - p)))) (n - 1 - (n - 1 - p)) = _
  rw [show n - 1 - (n - 1 - p) = p by omega]
  unfold bndS
  rw [g _ (pln_to hp h 3 (.inl rfl)), g _ (pln_to hp h 4 (.inr rfl))]
theorem et_fix {V : Nat → Int} {n : Nat} (hn : 0 < n) (hp : planB n V = true) {p : Nat} (h : p < n) : etR V (pls (dA n hn n)) p = endS V (etR V (pls (dA n hn n))) p := by
  have e1 : etR V (pls (dA n hn n)) p = etR V (pls (dA n hn (n - 1 - p + 1))) p := by
    have := et_keep (V := V) (hn := hn) (k := n - 1 - p + 1) p p (by omega) (by omega) h
    rw [show n - 1 - p + 1 + p = n by omega] at this
    exact this
  have g : ∀ X : Int, ((modB X = true ∧ -3 ≤ X ∧ X ≤ -1) ∨ (modB X = false ∧ (p : Int) + 1 ≤ X ∧ X ≤ (n : Int) - 1)) → gL (etR V (pls (dA n hn n))) X = gL (etR V (pls (dA n hn (n - 1 - p)))) X := fun X hX => by
    unfold gL
    rcases hX with ⟨m, _⟩ | ⟨m, h1, h2⟩
    · rw [if_pos m, if_pos m]
    · rw [if_neg (by rw [m]; simp), if_neg (by rw [m]; simp)]
      have := et_keep (V := V) (hn := hn) (k := n - 1 - p) (p + 1) X.toNat (by omega) (by omega) (by omega)
      rw [show n - 1 - p + (p + 1) = n by omega] at this
      exact this
  rw [e1, dA_succ, pls_snoc]
  show updL _ (n - 1 - (n - 1 - p)) _ p = _
  unfold updL
  rw [if_pos (by omega)]
  show endS V (etR V (pls (dA n hn (n - 1 - p)))) (n - 1 - (n - 1 - p)) = _
  rw [show n - 1 - (n - 1 - p) = p by omega]
  unfold endS
  rw [g _ (pln_to hp h 3 (.inl rfl)), g _ (pln_to hp h 4 (.inr rfl))]
/-- Where a run may stand behind i ticks: in a told mode, or in a step with time left. -/
def RunI (n : Nat) (V : Nat → Int) (B : Nat → Int) (E : Nat → List Int) (i : Nat) (a t : Int) : Prop := (modB a = true ∧ a ∈ E 0) ∨ (∃ p : Nat, a = (p : Int) ∧ p < n ∧ 0 ≤ t ∧ t < V (p * 5 + 2) ∧ (i : Int) + (B p - t) ≤ B 0 ∧ ∀ x, x ∈ E p → x ∈ E 0)
theorem run_land {n : Nat} {V : Nat → Int} {B : Nat → Int} {E : Nat → List Int} {i p : Nat} {t X : Int} (hp : planB n V = true) (hX : (modB X = true ∧ -3 ≤ X ∧ X ≤ -1) ∨ (modB X = false ∧ (p : Int) + 1 ≤ X ∧ X ≤ (n : Int) - 1)) (ht : t < V (p * 5 + 2)) (hb : (i : Int) + (B p - t) ≤ B 0) (hB : V (p * 5 + 2) + gAt B X ≤ B p) (hE : ∀ x, x ∈ gL E X → x ∈ E p) (h0 : ∀ x, x ∈ E p → x ∈ E 0) : RunI n V B E (i + 1) X 0 := by
  rcases hX with ⟨m, q⟩ | ⟨m, q1, q2⟩
  · exact .inl ⟨m, h0 X (hE X (by unfold gL; rw [if_pos m]; simp))⟩
  · obtain ⟨k, rfl⟩ : ∃ k : Nat, X = (k : Int) := ⟨X.toNat, by omega⟩
    have e1 : gAt B (k : Int) = B k := by unfold gAt; rw [if_neg (by rw [m]; simp)]; simp
    have e2 : gL E (k : Int) = E k := by unfold gL; rw [if_neg (by rw [m]; simp)]; simp
    rw [e1] at hB
    rw [e2] at hE
    have hl := pln_lim hp (show k < n by omega)
    exact .inr ⟨k, rfl, by omega, by omega, by omega, by push_cast; omega, fun x hx => h0 x (hE x hx)⟩
theorem run_inv {n : Nat} {V : Nat → Int} (hn : 0 < n) (hp : planB n V = true) (T : Nat → Int × Bool) (hH : ∀ j, (T j).2 = false) : ∀ i, RunI n V (tabR V (pls (dA n hn n))) (etR V (pls (dA n hn n))) i (stR V T i).1 (stR V T i).2
  | 0 => by
    have hl := pln_lim hp hn
    exact .inr ⟨0, rfl, hn, Int.le_refl _, by show (0 : Int) < _; omega, by simp [stR], fun x hx => hx⟩
  | i + 1 => by
    have ih := run_inv hn hp T hH i
    show RunI _ _ _ _ _ (nxtV V (stR V T i).1 (stR V T i).2 (T i).1 (T i).2).1 (nxtV V (stR V T i).1 (stR V T i).2 (T i).1 (T i).2).2
    rw [hH i]
    generalize (stR V T i).1 = a at ih ⊢
    generalize (stR V T i).2 = t at ih ⊢
    generalize (T i).1 = S
    rcases ih with ⟨m, hm⟩ | ⟨p, rfl, pn, t0, t1, hb, hE⟩
    · rw [nxt_mod m]
      exact .inl ⟨m, hm⟩
    · have fB := tab_fix hn hp pn
      have fE := et_fix hn hp pn
      have mono : ∀ x, x ∈ gL (etR V (pls (dA n hn n))) (V (p * 5 + 3)) ∨ x ∈ gL (etR V (pls (dA n hn n))) (V (p * 5 + 4)) → x ∈ etR V (pls (dA n hn n)) p := fun x hx => by
        rw [fE]
        unfold endS
        exact (jn_mem _ _ x).2 hx
      unfold bndS at fB
      have m3 : V (p * 5 + 2) + gAt (tabR V (pls (dA n hn n))) (V (p * 5 + 3)) ≤ tabR V (pls (dA n hn n)) p := by
        have := Int.le_max_left (gAt (tabR V (pls (dA n hn n))) (V (p * 5 + 3))) (gAt (tabR V (pls (dA n hn n))) (V (p * 5 + 4)))
        rw [fB]
        exact Int.add_le_add_left this _
      have m4 : V (p * 5 + 2) + gAt (tabR V (pls (dA n hn n))) (V (p * 5 + 4)) ≤ tabR V (pls (dA n hn n)) p := by
        have := Int.le_max_right (gAt (tabR V (pls (dA n hn n))) (V (p * 5 + 3))) (gAt (tabR V (pls (dA n hn n))) (V (p * 5 + 4)))
        rw [fB]
        exact Int.add_le_add_left this _
      unfold nxtV
      rw [if_neg (by rw [mod_nat]; simp), Int.toNat_natCast]
      by_cases hs : shB S (V (p * 5 + 1)) = true
      · rw [if_pos hs]
        exact run_land hp (pln_to hp pn 3 (.inl rfl)) t1 hb m3 (fun x hx => mono x (.inl hx)) hE
      · rw [if_neg hs, if_neg (by simp)]
        by_cases hl : t + 1 = V (p * 5 + 2)
        · rw [if_pos hl]
          exact run_land hp (pln_to hp pn 4 (.inr rfl)) t1 hb m4 (fun x hx => mono x (.inr hx)) hE
        · rw [if_neg hl]
          exact .inr ⟨p, rfl, pn, by omega, by omega, by push_cast; omega, hE⟩
theorem run_end {n m : Nat} {V : Nat → Int} (hp : planB n V = true) (T : Nat → Int × Bool) (hH : ∀ j, (T j).2 = false) (hm : bndV n V = (m : Int)) : modB (stR V T m).1 = true ∧ (stR V T m).1 ∈ endV n V 0 := by
  have hn : 0 < n := by have := (plan_yes hp).1; omega
  rw [bndV_yes hp hn] at hm
  have e0 : endV n V 0 = etR V (pls (dA n hn n)) 0 := endV_yes hp (by omega) (by omega) hn
  rw [e0]
  rcases run_inv hn hp T hH m with h | ⟨p, e, pn, t0, t1, hb, _⟩
  · exact h
  · exfalso
    have fB := tab_fix hn hp pn
    have hin := gAt_in (tab_in hp (pls (dA n hn n)) (pls_in _)) (V (p * 5 + 3))
    unfold bndS at fB
    omega
end Go.Proofs.Ytlbhdlieeilbdaa
