/-
What is proved: a basin's book behind days, in numbers.
-/
import Derived.Test.YtiamhpopgnblcaaBRun
import Derived.Test.YtiamhpopgnblcaaBasinV
namespace Go.Proofs.Ytiamhpopgnblcaa
set_option maxRecDepth 40000
open Go.ChangeShapes Go.WideShapes Go.ChangeAt Go.RowKit
set_option linter.unusedVariables false
set_option linter.unusedSimpArgs false

def inflow (I : Int) (A : Nat → Int) : Nat → Int
  | 0 => I
  | k + 1 => inflow I A k + A (k * 3)
/-- What holds behind k days. -/
def BookB (full : Int) (x y : T4) (A : Nat → Int) (k : Nat) : Prop := basB y.1 y.2.1 y.2.2.1 y.2.2.2 = true ∧ y.2.1 = inflow x.2.1 A k ∧ (k = 0 ∨ y.1 ≤ full) ∧ x.2.2.1 ≤ y.2.2.1 ∧ x.2.2.2 ≤ y.2.2.2
theorem book_run {full : Int} {Y : Int → Int} {K : Int → Bool} {x : T4} {A : Nat → Int} (hx : basB x.1 x.2.1 x.2.2.1 x.2.2.2 = true) : ∀ k, (∀ j, j < k → okR full Y K x A j = true) → BookB full x (runB full Y K x A k) A k
  | 0, _ => ⟨hx, rfl, Or.inl rfl, Int.le_refl _, Int.le_refl _⟩
  | k + 1, hk => by
    obtain ⟨h1, h2, h3, h4, h5⟩ := book_run hx k (fun j hj => hk j (by omega))
    have ok := hk k (by omega)
    unfold okR okB at ok
    generalize hz : runB full Y K x A k = z at *
    obtain ⟨S, I, O, P⟩ := z
    have e : runB full Y K x A (k + 1) = nextB full Y K (S, I, O, P) (A (k * 3)) (A (k * 3 + 1)) (A (k * 3 + 2)) := by show nextB _ _ _ (runB full Y K x A k) _ _ _ = _; rw [hz]
    rw [e]
    have ok2 : goodB S I O P full (A (k * 3)) (A (k * 3 + 1)) (K (A (k * 3 + 2))) = true := ok
    obtain ⟨e1, e2, e3, e4⟩ := yes_all (y := Y (A (k * 3 + 2))) ok2
    have b1 : basB S I O P = true := h1
    have bb := bas_bounds b1
    have bq : S = I - O - P := by
      unfold basB at b1
      simp only [Bool.and_eq_true, decide_eq_true_iff] at b1
      exact b1.2.2.2.2
    unfold goodB at ok2
    simp only [Bool.and_eq_true, decide_eq_true_iff] at ok2
    obtain ⟨-, hw, hf, -, hi⟩ := ok2
    have q1 := inB_yes (watB_q hw)
    have q2 := inB_yes (watB_k hw)
    have q3 := inB_yes hf
    have i2 : I = inflow x.2.1 A k := h2
    have h4' : x.2.2.1 ≤ O := h4
    have h5' : x.2.2.2 ≤ P := h5
    show BookB full x (nS S I O P full (A (k * 3)) (A (k * 3 + 1)) (Y (A (k * 3 + 2))) (K (A (k * 3 + 2))), nI S I O P full (A (k * 3)) (A (k * 3 + 1)) (Y (A (k * 3 + 2))) (K (A (k * 3 + 2))), nO S I O P full (A (k * 3)) (A (k * 3 + 1)) (Y (A (k * 3 + 2))) (K (A (k * 3 + 2))), nP S I O P full (A (k * 3)) (A (k * 3 + 1)) (Y (A (k * 3 + 2))) (K (A (k * 3 + 2)))) A (k + 1)
    rw [e1, e2, e3, e4]
    have o1 : 0 ≤ outV (A (k * 3 + 1)) (S + A (k * 3)) (Y (A (k * 3 + 2))) ∧ outV (A (k * 3 + 1)) (S + A (k * 3)) (Y (A (k * 3 + 2))) ≤ S + A (k * 3) := by
      unfold outV askV
      repeat' split
      all_goals omega
    have o2 : 0 ≤ splV (A (k * 3 + 1)) (S + A (k * 3)) (Y (A (k * 3 + 2))) full ∧ S + A (k * 3) - outV (A (k * 3 + 1)) (S + A (k * 3)) (Y (A (k * 3 + 2))) - splV (A (k * 3 + 1)) (S + A (k * 3)) (Y (A (k * 3 + 2))) full ≤ full ∧ 0 ≤ S + A (k * 3) - outV (A (k * 3 + 1)) (S + A (k * 3)) (Y (A (k * 3 + 2))) - splV (A (k * 3 + 1)) (S + A (k * 3)) (Y (A (k * 3 + 2))) full := by
      unfold splV
      split
      all_goals omega
    generalize outV (A (k * 3 + 1)) (S + A (k * 3)) (Y (A (k * 3 + 2))) = u at *
    generalize splV (A (k * 3 + 1)) (S + A (k * 3)) (Y (A (k * 3 + 2))) full = v at *
    refine ⟨?_, ?_, Or.inr o2.2.1, ?_, ?_⟩
    · show basB (S + A (k * 3) - u - v) (I + A (k * 3)) (O + u) (P + v) = true
      unfold basB inB
      simp only [Bool.and_eq_true, decide_eq_true_iff]
      omega
    · show I + A (k * 3) = inflow x.2.1 A k + A (k * 3)
      rw [i2]
    · show x.2.2.1 ≤ O + u
      omega
    · show x.2.2.2 ≤ P + v
      omega
theorem inflow_bd {full : Int} {Y : Int → Int} {K : Int → Bool} {x : T4} {A : Nat → Int} {k : Nat} (hx : basB x.1 x.2.1 x.2.2.1 x.2.2.2 = true) (hk : ∀ j, j < k → okR full Y K x A j = true) : 0 ≤ inflow x.2.1 A k ∧ inflow x.2.1 A k ≤ 1000000000000 := by
  obtain ⟨h1, h2, -⟩ := book_run hx k hk
  have := bas_bounds h1
  omega
theorem run_book {full : Int} {Y : Int → Int} {K : Int → Bool} {x : T4} {A : Nat → Int} {n : Nat} {v : Value} (hv : RunBV full Y K x A n v) : (∃ y0 y1 y2 y3 : Int, v = .tuple #[.agg #[.int .i64 y0, .int .i64 y1, .int .i64 y2, .int .i64 y3], .int .i64 (-1)]) ∨ ∃ (k : Nat) (y0 y1 y2 y3 : Int), v = .tuple #[.agg #[.int .i64 y0, .int .i64 y1, .int .i64 y2, .int .i64 y3], .int .i64 (k : Int)] ∧ k ≤ n ∧ (0 ≤ y0 ∧ y0 ≤ 1000000000000) ∧ (0 ≤ y1 ∧ y1 ≤ 1000000000000) ∧ (0 ≤ y2 ∧ y2 ≤ 1000000000000) ∧ (0 ≤ y3 ∧ y3 ≤ 1000000000000) ∧ y0 = y1 - y2 - y3 ∧ y1 = inflow x.2.1 A k ∧ (k = 0 ∨ y0 ≤ full) ∧ x.2.2.1 ≤ y2 ∧ x.2.2.2 ≤ y3 ∧ ∀ j, j ≤ k → 0 ≤ inflow x.2.1 A j ∧ inflow x.2.1 A j ≤ 1000000000000 := by
  rcases hv with ⟨h1, rfl⟩ | ⟨h1, k, k1, k2, k3, rfl⟩
  · exact Or.inl ⟨_, _, _, _, rfl⟩
  · right
    unfold goR at h1
    rw [Bool.and_eq_true] at h1
    obtain ⟨b1, b2, b3, b4, b5⟩ := book_run h1.1 k k2
    have bb := bas_bounds b1
    have bq : (runB full Y K x A k).1 = (runB full Y K x A k).2.1 - (runB full Y K x A k).2.2.1 - (runB full Y K x A k).2.2.2 := by
      unfold basB at b1
      simp only [Bool.and_eq_true, decide_eq_true_iff] at b1
      exact b1.2.2.2.2
    exact ⟨k, _, _, _, _, rfl, k1, ⟨bb.1, bb.2.1⟩, ⟨bb.2.2.1, bb.2.2.2.1⟩, ⟨bb.2.2.2.2.1, bb.2.2.2.2.2.1⟩, ⟨bb.2.2.2.2.2.2.1, bb.2.2.2.2.2.2.2⟩, bq, b2, b3, b4, b5, fun j hj => inflow_bd h1.1 (fun i hi => k2 i (by omega))⟩
end Go.Proofs.Ytiamhpopgnblcaa
