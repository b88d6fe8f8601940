/-
What is proved: who begins next, as both packages look for it, in numbers.
-/
import Derived.Test.YtcialcejmjggeaaLdN
import Derived.Test.YtcialcejmjggeaaHpQ

namespace Go.Proofs.Ytcialcejmjggeaa
set_option maxRecDepth 40000
open Go.ChangeShapes Go.WideShapes Go.ChangeAt Go.RowKit
set_option linter.unusedVariables false
set_option linter.unusedSimpArgs false

def anS (V T : Nat → Int) (t : Int) : Nat → Bool
  | 0 => false
  | k + 1 => anS V T t k || startB (T k) t (V (k * 4 + 2))
theorem anS_yes {V T : Nat → Int} {t : Int} {k : Nat} (h : startB (T k) t (V (k * 4 + 2)) = true) : ∀ n, k < n → anS V T t n = true
  | 0, hk => by omega
  | n + 1, hk => by
    unfold anS
    by_cases q : k = n
    · subst q; rw [h]; simp
    · rw [anS_yes h n (by omega)]; simp
theorem anS_no {V T : Nat → Int} {t : Int} {k : Nat} (h0 : anS V T t k = false) (h : startB (T k) t (V (k * 4 + 2)) = false) : anS V T t (k + 1) = false := by
  unfold anS; rw [h0, h]; rfl
theorem anS_iff {V T : Nat → Int} {t : Int} : ∀ n, (∀ i, i < n → T i ≤ t) → (anS V T t n = true ↔ StartP V n T t)
  | 0, _ => ⟨fun h => (by cases h), fun ⟨i, hi, _⟩ => (by omega)⟩
  | n + 1, hT => by
    have ih := anS_iff (V := V) n fun i hi => hT i (by omega)
    unfold anS
    rw [Bool.or_eq_true, ih]
    have hb : startB (T n) t (V (n * 4 + 2)) = true ↔ (0 ≤ T n ∧ t < T n + V (n * 4 + 2)) := by
      unfold startB
      rw [decide_eq_true_iff]
      have := hT n (by omega)
      omega
    rw [hb]
    constructor
    · rintro (⟨i, hi, h⟩ | h)
      · exact ⟨i, by omega, h⟩
      · exact ⟨n, by omega, h⟩
    · rintro ⟨i, hi, h⟩
      by_cases q : i = n
      · subst q; exact .inr h
      · exact .inl ⟨i, by omega, h⟩
theorem start_late {f t m : Int} (h : f ≤ t) : startB f t m = (decide (0 ≤ f) && decide (t < f + m)) := by
  unfold startB
  by_cases a : 0 ≤ f <;> by_cases b : t < f + m <;> simp [a, b, h]
/-- None of those ahead of rank r and place i fits. -/
def Upto (V : Nat → Int) (F : Nat → Bool) (n : Nat) (r : Int) (i : Nat) : Prop := ∀ a, a < n → F a = true → r < V (a * 4 + 3) ∨ (V (a * 4 + 3) = r ∧ i ≤ a)
theorem upto_start {V : Nat → Int} {F : Nat → Bool} {n : Nat} (hM : ∀ j, j < n → machB V j = true) : Upto V F n 1 0 := fun a ha _ => by
  obtain ⟨-, -, -, d⟩ := machV_yes (hM a ha)
  omega
theorem upto_on {V : Nat → Int} {F : Nat → Bool} {n i : Nat} {r : Int} (h : Upto V F n r i) (hi : V (i * 4 + 3) ≠ r ∨ F i = false) : Upto V F n r (i + 1) := fun a ha hf => by
  rcases h a ha hf with q | ⟨q1, q2⟩
  · exact .inl q
  · by_cases e : a = i
    · subst e
      rcases hi with x | x
      · exact absurd q1 x
      · rw [x] at hf; cases hf
    · exact .inr ⟨q1, by omega⟩
theorem upto_next {V : Nat → Int} {F : Nat → Bool} {n : Nat} {r : Int} (h : Upto V F n r n) : Upto V F n (r + 1) 0 := fun a ha hf => by
  rcases h a ha hf with q | ⟨q1, q2⟩ <;> omega
theorem upto_none {V : Nat → Int} {F : Nat → Bool} {n : Nat} (hM : ∀ j, j < n → machB V j = true) (h : Upto V F n 10 0) : bestN V F n = -1 := bestN_none n fun a ha => by
  obtain ⟨-, -, -, d⟩ := machV_yes (hM a ha)
  cases hf : F a
  · rfl
  · rcases h a ha hf with q | ⟨q1, q2⟩ <;> omega
theorem upto_found {V : Nat → Int} {F : Nat → Bool} {n i : Nat} (hn : n ≤ 60) (h : Upto V F n (V (i * 4 + 3)) i) (hi : i < n) (hf : F i = true) : bestN V F n = i := bestN_one hn hi hf fun a ha hfa => by
  rcases Int.lt_or_le (kStart V a) (kStart V i) with q | q
  · exfalso
    rw [kStart_lt (by omega) (by omega)] at q
    rcases h a ha hfa with x | ⟨x, y⟩ <;> omega
  · exact q
def ldM (n : Nat) (V : Nat → Int) (most : Int) : Nat := if ldB V n most = true then n else 0
theorem ldM_le (n : Nat) (V : Nat → Int) (most : Int) : ldM n V most ≤ n := by unfold ldM; split <;> omega
theorem TT_on2 {V : Nat → Int} {n : Nat} {most : Int} {t : Nat} (h : nxL V n most (TT V n most t) t = -1) : TT V n most (t + 1) = TT V n most t := TT_on h
end Go.Proofs.Ytcialcejmjggeaa
