/-
What is proved: whether a step of a drum is taken, as both packages say it; a step of a drum in whole numbers.
-/
import Derived.Test.YtjiojofgpdimaaaDrumL
namespace Go.Proofs.Ytjiojofgpdimaaa
set_option maxRecDepth 40000
open Go.RowKit

abbrev inS (x : Int) : Prop := 0 ≤ x ∧ x ≤ 1000000
def actB (fe fi dr : Int) : Bool := decide (inS fe ∧ inS fi ∧ inS dr)
def fitB (x3 x5 fe fi : Int) : Bool := decide (x3 + fe ≤ 1000000000000 ∧ x5 + fi + 4 * fe ≤ 1000000000000)
/-- What becomes steam (below 0: water), with e the heat that is over, a the water, b the steam. -/
def boilN (e a b : Int) : Int := if 0 < e then min a (e / 10) else if e < 0 then -min b ((9 - e) / 10) else 0
theorem boil_pos {e a b : Int} (h : 0 < e) : boilN e a b = min a (e / 10) := by unfold boilN; rw [if_pos h]
theorem boil_neg {e a b : Int} (h : e < 0) : boilN e a b = -min b ((9 - e) / 10) := by unfold boilN; rw [if_neg (by omega), if_pos h]
theorem boil_zero {e a b : Int} (h : e = 0) : boilN e a b = 0 := by unfold boilN; rw [if_neg (by omega), if_neg (by omega)]
/-- The drum behind a step. -/
def stepD (x0 x1 x2 x3 x4 x5 x6 fe fi dr : Int) : Value :=
  let n := boilN (x2 + 4 * fe + fi - 20 * (x0 + fe) - 30 * x1) (x0 + fe) x1
  let m := min dr (x1 + n)
  .agg #[.int .i64 (x0 + fe - n), .int .i64 (x1 + n - m), .int .i64 (x2 + 4 * fe + fi - 30 * m), .int .i64 (x3 + fe), .int .i64 (x4 + m), .int .i64 (x5 + 4 * fe + fi), .int .i64 (x6 + 30 * m)]
def stepOk (x0 x1 x2 x3 x4 x5 x6 fe fi dr : Int) : Bool := drumB x0 x1 x2 x3 x4 x5 x6 && actB fe fi dr && fitB x3 x5 fe fi
def drum0 : Value := .agg #[.int .i64 0, .int .i64 0, .int .i64 0, .int .i64 0, .int .i64 0, .int .i64 0, .int .i64 0]
def stepV (x0 x1 x2 x3 x4 x5 x6 fe fi dr : Int) : Value := if stepOk x0 x1 x2 x3 x4 x5 x6 fe fi dr = true then stepD x0 x1 x2 x3 x4 x5 x6 fe fi dr else drum0

set_option maxHeartbeats 400000 in
theorem l4Act_any (fe fi dr : Int) (w : World) : Calls Try.prog 32 #[.int .i64 fe, .int .i64 fi, .int .i64 dr] w fun e w' => e = .returned (.bool (actB fe fi dr)) ∧ w' = w := by
  by_cases a : inS fe
  · have A : Hid (∀ w, Calls Try.prog 43 #[.int .i64 fe, .int .i64 0, .int .i64 1000000] w fun e w' => e = .returned (.bool true) ∧ w' = w) := fun w => l1In_yes fe 0 1000000 w a.1 a.2
    by_cases b : inS fi
    · have B : Hid (∀ w, Calls Try.prog 43 #[.int .i64 fi, .int .i64 0, .int .i64 1000000] w fun e w' => e = .returned (.bool true) ∧ w' = w) := fun w => l1In_yes fi 0 1000000 w b.1 b.2
      obtain ⟨v, hv, C⟩ : ∃ v, actB fe fi dr = v ∧ Hid (∀ w, Calls Try.prog 43 #[.int .i64 dr, .int .i64 0, .int .i64 1000000] w fun e w' => e = .returned (.bool v) ∧ w' = w) := by
        by_cases c : inS dr
        · exact ⟨true, by unfold actB; exact decide_eq_true ⟨a, b, c⟩, fun w => l1In_yes dr 0 1000000 w c.1 c.2⟩
        · exact ⟨false, by unfold actB; exact decide_eq_false fun g => c g.2.2, fun w => l1In_no dr 0 1000000 w (by unfold inS at c; omega)⟩
      rw [hv]
      clear a b hv
      go_enter Try.func32, Try.ntmps32
      go_wp2_with fail
      refine (A.out _).mono ?_
      rintro e w1 ⟨rfl, rfl⟩
      go_wp2_with fail
      refine (B.out _).mono ?_
      rintro e w1 ⟨rfl, rfl⟩
      go_wp2_with fail
      refine (C.out _).mono ?_
      rintro e w1 ⟨rfl, rfl⟩
      go_wp2
      go_ret
      exact ⟨rfl, rfl⟩
    · have B : Hid (∀ w, Calls Try.prog 43 #[.int .i64 fi, .int .i64 0, .int .i64 1000000] w fun e w' => e = .returned (.bool false) ∧ w' = w) := fun w => l1In_no fi 0 1000000 w (by unfold inS at b; omega)
      have hv : actB fe fi dr = false := by unfold actB; exact decide_eq_false fun g => b g.2.1
      rw [hv]
      clear a b hv
      go_enter Try.func32, Try.ntmps32
      go_wp2_with fail
      refine (A.out _).mono ?_
      rintro e w1 ⟨rfl, rfl⟩
      go_wp2_with fail
      refine (B.out _).mono ?_
      rintro e w1 ⟨rfl, rfl⟩
      go_wp2
      go_ret
      exact ⟨rfl, rfl⟩
  · have A : Hid (∀ w, Calls Try.prog 43 #[.int .i64 fe, .int .i64 0, .int .i64 1000000] w fun e w' => e = .returned (.bool false) ∧ w' = w) := fun w => l1In_no fe 0 1000000 w (by unfold inS at a; omega)
    have hv : actB fe fi dr = false := by unfold actB; exact decide_eq_false fun g => a g.1
    rw [hv]
    clear a hv
    go_enter Try.func32, Try.ntmps32
    go_wp2_with fail
    refine (A.out _).mono ?_
    rintro e w1 ⟨rfl, rfl⟩
    go_wp2
    go_ret
    exact ⟨rfl, rfl⟩
end Go.Proofs.Ytjiojofgpdimaaa
