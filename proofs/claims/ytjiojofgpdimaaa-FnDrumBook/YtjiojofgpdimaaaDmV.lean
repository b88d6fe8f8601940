/-
What is proved: a step keeps a drum right; a run in two pieces comes to the same drum as in one, in numbers.
-/
import Derived.Test.YtjiojofgpdimaaaRun
import Derived.Test.YtjiojofgpdimaaaDrumL
import Derived.Test.YtjiojofgpdimaaaStepS
namespace Go.Proofs.Ytjiojofgpdimaaa
set_option maxRecDepth 40000
open Go.ChangeShapes Go.WideShapes Go.ChangeAt Go.RowKit
set_option linter.unusedVariables false
set_option linter.unusedSimpArgs false

theorem drum_next {x : T7} {fe fi dr : Int} (h : okT x fe fi dr = true) : drumB (nextT x fe fi dr).1 (nextT x fe fi dr).2.1 (nextT x fe fi dr).2.2.1 (nextT x fe fi dr).2.2.2.1 (nextT x fe fi dr).2.2.2.2.1 (nextT x fe fi dr).2.2.2.2.2.1 (nextT x fe fi dr).2.2.2.2.2.2 = true := by
  obtain ⟨x0, x1, x2, x3, x4, x5, x6⟩ := x
  have hs : inD x0 ∧ inD x1 ∧ inD x2 ∧ inD x3 ∧ inD x4 ∧ inD x5 ∧ inD x6 ∧ inS fe ∧ inS fi ∧ inS dr ∧ x3 + fe ≤ 1000000000000 ∧ x5 + fi + 4 * fe ≤ 1000000000000 ∧ drumB x0 x1 x2 x3 x4 x5 x6 = true ∧ actB fe fi dr = true := step_facts h
  obtain ⟨h0, h1, h2, h3, h4, h5, h6, hfe, hfi, hdr, f1, f2, hd, -⟩ := hs
  obtain ⟨-, -, -, -, -, -, -, e1, e2, e3⟩ := drum_yes hd
  unfold inD at *
  unfold inS at *
  show drumB (x0 + fe - boilN (x2 + 4 * fe + fi - 20 * (x0 + fe) - 30 * x1) (x0 + fe) x1) (x1 + boilN (x2 + 4 * fe + fi - 20 * (x0 + fe) - 30 * x1) (x0 + fe) x1 - min dr (x1 + boilN (x2 + 4 * fe + fi - 20 * (x0 + fe) - 30 * x1) (x0 + fe) x1)) (x2 + 4 * fe + fi - 30 * min dr (x1 + boilN (x2 + 4 * fe + fi - 20 * (x0 + fe) - 30 * x1) (x0 + fe) x1)) (x3 + fe) (x4 + min dr (x1 + boilN (x2 + 4 * fe + fi - 20 * (x0 + fe) - 30 * x1) (x0 + fe) x1)) (x5 + 4 * fe + fi) (x6 + 30 * min dr (x1 + boilN (x2 + 4 * fe + fi - 20 * (x0 + fe) - 30 * x1) (x0 + fe) x1)) = true
  have hb := boil_bounds (e := x2 + 4 * fe + fi - 20 * (x0 + fe) - 30 * x1) (a := x0 + fe) (b := x1) (by omega) (by omega)
  have hc : x1 + boilN (x2 + 4 * fe + fi - 20 * (x0 + fe) - 30 * x1) (x0 + fe) x1 = 0 ∨ 0 ≤ x2 + 4 * fe + fi - 20 * (x0 + fe) - 30 * x1 - 10 * boilN (x2 + 4 * fe + fi - 20 * (x0 + fe) - 30 * x1) (x0 + fe) x1 := by
    rcases Int.lt_trichotomy (x2 + 4 * fe + fi - 20 * (x0 + fe) - 30 * x1) 0 with z | z | z
    · rw [boil_neg z]; omega
    · rw [boil_zero z]; omega
    · rw [boil_pos z]; omega
  generalize boilN (x2 + 4 * fe + fi - 20 * (x0 + fe) - 30 * x1) (x0 + fe) x1 = n at *
  unfold drumB
  rw [decide_eq_true_iff]
  unfold inD
  omega
theorem run_right {x : T7} {A : Nat → Int} (h : drumB x.1 x.2.1 x.2.2.1 x.2.2.2.1 x.2.2.2.2.1 x.2.2.2.2.2.1 x.2.2.2.2.2.2 = true) : ∀ k, (∀ j, j < k → okK x A j = true) → drumB (runT x A k).1 (runT x A k).2.1 (runT x A k).2.2.1 (runT x A k).2.2.2.1 (runT x A k).2.2.2.2.1 (runT x A k).2.2.2.2.2.1 (runT x A k).2.2.2.2.2.2 = true
  | 0, _ => h
  | k + 1, hk => drum_next (hk k (by omega))
theorem run_shift (x : T7) (A : Nat → Int) (k : Nat) : ∀ j, runT (runT x A k) (fun i => A (k * 3 + i)) j = runT x A (k + j)
  | 0 => rfl
  | j + 1 => by
    show nextT (runT (runT x A k) (fun i => A (k * 3 + i)) j) (A (k * 3 + j * 3)) (A (k * 3 + (j * 3 + 1))) (A (k * 3 + (j * 3 + 2))) = nextT (runT x A (k + j)) (A ((k + j) * 3)) (A ((k + j) * 3 + 1)) (A ((k + j) * 3 + 2))
    rw [run_shift x A k j, show k * 3 + j * 3 = (k + j) * 3 by omega, show k * 3 + (j * 3 + 1) = (k + j) * 3 + 1 by omega, show k * 3 + (j * 3 + 2) = (k + j) * 3 + 2 by omega]
theorem ok_shift (x : T7) (A : Nat → Int) (k j : Nat) : okK (runT x A k) (fun i => A (k * 3 + i)) j = okK x A (k + j) := by
  show okT (runT (runT x A k) (fun i => A (k * 3 + i)) j) (A (k * 3 + j * 3)) (A (k * 3 + (j * 3 + 1))) (A (k * 3 + (j * 3 + 2))) = okT (runT x A (k + j)) (A ((k + j) * 3)) (A ((k + j) * 3 + 1)) (A ((k + j) * 3 + 2))
  rw [run_shift x A k j, show k * 3 + j * 3 = (k + j) * 3 by omega, show k * 3 + (j * 3 + 1) = (k + j) * 3 + 1 by omega, show k * 3 + (j * 3 + 2) = (k + j) * 3 + 2 by omega]
/-- A run that comes to its end. -/
def FullT (x : T7) (A : Nat → Int) (m : Nat) : Prop := goB x m = true ∧ ∀ j, j < m → okK x A j = true
theorem FullT.value {x : T7} {A : Nat → Int} {m : Nat} {v : Value} (h : FullT x A m) (hv : RunV x A m v) : v = .tuple #[valT (runT x A m), .int .i64 (m : Int)] := hv.one (Or.inr ⟨h.1, m, Nat.le_refl _, h.2, Or.inl rfl, rfl⟩)
theorem run_full {x : T7} {A : Nat → Int} {m : Nat} {v : Value} (hv : RunV x A m v) : (∃ y c, v = .tuple #[valT y, .int .i64 c] ∧ c < (m : Int) ∧ -1 ≤ c) ∨ FullT x A m := by
  rcases hv with ⟨h1, rfl⟩ | ⟨h1, k, k1, k2, k3, rfl⟩
  · exact Or.inl ⟨(0, 0, 0, 0, 0, 0, 0), -1, rfl, by omega, by omega⟩
  · rcases Nat.lt_or_ge k m with z | z
    · exact Or.inl ⟨_, (k : Int), rfl, by omega, by omega⟩
    · obtain rfl : k = m := by omega
      exact Or.inr ⟨h1, k2⟩
theorem FullT.first {x : T7} {A : Nat → Int} {m k : Nat} (h : FullT x A m) (hk : k ≤ m) : FullT x A k := by
  obtain ⟨h1, h2⟩ := h
  unfold goB at h1
  rw [Bool.and_eq_true, decide_eq_true_iff] at h1
  refine ⟨?_, fun j hj => h2 j (by omega)⟩
  unfold goB
  rw [h1.1, decide_eq_true (by omega)]
  rfl
theorem FullT.last {x : T7} {A : Nat → Int} {m k : Nat} (h : FullT x A m) (hk : k ≤ m) : FullT (runT x A k) (fun i => A (k * 3 + i)) (m - k) := by
  obtain ⟨h1, h2⟩ := h
  unfold goB at h1
  rw [Bool.and_eq_true, decide_eq_true_iff] at h1
  refine ⟨?_, fun j hj => ?_⟩
  · unfold goB
    rw [run_right h1.1 k (fun j hj => h2 j (by omega)), decide_eq_true (by omega)]
    rfl
  · rw [ok_shift]
    exact h2 _ (by omega)
end Go.Proofs.Ytjiojofgpdimaaa
