/-
What is proved: when limits and their clocks are right, in numbers; the soonest that will be late.
-/
import Derived.Test.YtmoeoepinlcmdaaDoorClG
import Derived.Test.YtmoeoepinlcmdaaDoorLimR
import Derived.Test.YtmoeoepinlcmdaaDoorClkR
namespace Go.Proofs.YtmoeoepinlcmdaaDoor
set_option maxRecDepth 40000
open Go.ChangeShapes Go.WideShapes Go.ChangeAt Go.RowKit
set_option linter.unusedVariables false
set_option linter.unusedSimpArgs false

def ErrC (w : World) : Prop := ErrA w ∧ ErrG 0 w ∧ ErrG 1 w ∧ ErrG 2 w
theorem ErrC.below {w w' : World} (h : ErrC w) (hb : Below w.heap.size w w') : ErrC w' := ⟨h.1.below hb, h.2.1.below hb, h.2.2.1.below hb, h.2.2.2.below hb⟩
def limB (z : Int × Int) : Bool := inB 0 255 z.1 && inB 1 10000 z.2
def clkB (z : Int × Int) (u : Int × Bool) : Bool := inB (-1) z.2 u.1 && (u.2 == decide (u.1 = z.2))
def clsB (n : Nat) (V : Nat → Int × Int) (m : Nat) (U : Nat → Int × Bool) : Bool := decide (n ≤ 60) && (decide (m = n) && decide (∀ j, j < n → (limB (V j) && clkB (V j) (U j)) = true))
theorem lim_yes {z : Int × Int} (h : limB z = true) : (0 ≤ z.1 ∧ z.1 ≤ 255) ∧ (1 ≤ z.2 ∧ z.2 ≤ 10000) := by
  unfold limB at h
  simp only [Bool.and_eq_true] at h
  exact ⟨inB_yes h.1, inB_yes h.2⟩
theorem clk_yes {z : Int × Int} {u : Int × Bool} (h : clkB z u = true) : (-1 ≤ u.1 ∧ u.1 ≤ z.2) ∧ u.2 = decide (u.1 = z.2) := by
  unfold clkB at h
  simp only [Bool.and_eq_true, beq_iff_eq] at h
  exact ⟨inB_yes h.1, h.2⟩
theorem cls_long {n m : Nat} {V : Nat → Int × Int} {U : Nat → Int × Bool} (h : 60 < n) : clsB n V m U = false := by unfold clsB; rw [decide_eq_false (by omega)]; rfl
theorem cls_odd {n m : Nat} {V : Nat → Int × Int} {U : Nat → Int × Bool} (h : m ≠ n) : clsB n V m U = false := by unfold clsB; rw [decide_eq_false h]; simp
theorem cls_is {n : Nat} {V : Nat → Int × Int} {U : Nat → Int × Bool} (h : n ≤ 60) : clsB n V n U = decide (∀ j, j < n → (limB (V j) && clkB (V j) (U j)) = true) := by unfold clsB; rw [decide_eq_true h, decide_eq_true rfl]; rfl
theorem cls_yes {n m : Nat} {V : Nat → Int × Int} {U : Nat → Int × Bool} (h : clsB n V m U = true) : n ≤ 60 ∧ m = n ∧ ∀ j, j < n → limB (V j) = true ∧ clkB (V j) (U j) = true := by
  unfold clsB at h
  simp only [Bool.and_eq_true, decide_eq_true_eq] at h
  exact ⟨h.1, h.2.1, h.2.2⟩
theorem cls_bad {n m k : Nat} {V : Nat → Int × Int} {U : Nat → Int × Bool} (hk : k < n) (h : limB (V k) = false ∨ clkB (V k) (U k) = false) : clsB n V m U = false := by
  cases e : clsB n V m U
  · rfl
  · obtain ⟨_, _, q⟩ := cls_yes e
    obtain ⟨q1, q2⟩ := q k hk
    rcases h with h | h
    · rw [q1] at h; cases h
    · rw [q2] at h; cases h
theorem cls_all {n : Nat} {V : Nat → Int × Int} {U : Nat → Int × Bool} (h : n ≤ 60) (h1 : ∀ j, j < n → limB (V j) = true) (h2 : ∀ j, j < n → clkB (V j) (U j) = true) : clsB n V n U = true := by
  rw [cls_is h]
  exact decide_eq_true fun j hj => by rw [h1 j hj, h2 j hj]; rfl
/-- Is a clock that has r, with so many left, sooner late than a? -/
def sooT (a l r : Int) : Bool := (decide (0 ≤ r) && decide (0 < l)) && (decide (a < 0) || decide (l < a))
def sooN (a l r : Int) : Int := if sooT a l r = true then l else a
def sooF (V : Nat → Int × Int) (U : Nat → Int × Bool) : Nat → Int
  | 0 => -1
  | k + 1 => sooN (sooF V U k) ((V k).2 - (U k).1) (U k).1
def sooV (n : Nat) (V : Nat → Int × Int) (m : Nat) (U : Nat → Int × Bool) : Int := if clsB n V m U = true then sooF V U n else -1
theorem soo_in (V : Nat → Int × Int) (U : Nat → Int × Bool) (n : Nat) (h : ∀ j, j < n → limB (V j) = true ∧ clkB (V j) (U j) = true) : ∀ k, k ≤ n → -1 ≤ sooF V U k ∧ sooF V U k ≤ 10001 ∧ sooF V U k ≠ 0 := by
  intro k
  induction k with
  | zero => intro _; exact ⟨Int.le_refl _, (by decide : (-1 : Int) ≤ 10001), (by decide : (-1 : Int) ≠ 0)⟩
  | succ k ih =>
    intro hk
    obtain ⟨i0, i1, i2⟩ := ih (by omega)
    obtain ⟨h1, h2⟩ := h k (by omega)
    have a := lim_yes h1
    have b := clk_yes h2
    show -1 ≤ sooN (sooF V U k) ((V k).2 - (U k).1) (U k).1 ∧ sooN (sooF V U k) ((V k).2 - (U k).1) (U k).1 ≤ 10001 ∧ sooN (sooF V U k) ((V k).2 - (U k).1) (U k).1 ≠ 0
    unfold sooN
    split
    · rename_i e
      unfold sooT at e
      simp only [Bool.and_eq_true, decide_eq_true_eq] at e
      omega
    · omega
end Go.Proofs.YtmoeoepinlcmdaaDoor
