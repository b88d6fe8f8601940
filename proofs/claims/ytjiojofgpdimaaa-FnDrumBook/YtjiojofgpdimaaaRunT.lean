/-
What is proved: a drum as seven numbers, and its step.
-/
import Derived.Test.YtjiojofgpdimaaaStepI
namespace Go.Proofs.Ytjiojofgpdimaaa
set_option maxRecDepth 40000
open Go.RowKit

abbrev T7 : Type := Int × Int × Int × Int × Int × Int × Int
def valT (x : T7) : Value := .agg #[.int .i64 x.1, .int .i64 x.2.1, .int .i64 x.2.2.1, .int .i64 x.2.2.2.1, .int .i64 x.2.2.2.2.1, .int .i64 x.2.2.2.2.2.1, .int .i64 x.2.2.2.2.2.2]
def okT (x : T7) (fe fi dr : Int) : Bool := stepOk x.1 x.2.1 x.2.2.1 x.2.2.2.1 x.2.2.2.2.1 x.2.2.2.2.2.1 x.2.2.2.2.2.2 fe fi dr
def nextT (x : T7) (fe fi dr : Int) : T7 :=
  let n := boilN (x.2.2.1 + 4 * fe + fi - 20 * (x.1 + fe) - 30 * x.2.1) (x.1 + fe) x.2.1
  let m := min dr (x.2.1 + n)
  (x.1 + fe - n, x.2.1 + n - m, x.2.2.1 + 4 * fe + fi - 30 * m, x.2.2.2.1 + fe, x.2.2.2.2.1 + m, x.2.2.2.2.2.1 + 4 * fe + fi, x.2.2.2.2.2.2 + 30 * m)
theorem stepV_next (x0 x1 x2 x3 x4 x5 x6 fe fi dr : Int) (h : stepOk x0 x1 x2 x3 x4 x5 x6 fe fi dr = true) : stepV x0 x1 x2 x3 x4 x5 x6 fe fi dr = valT (nextT (x0, x1, x2, x3, x4, x5, x6) fe fi dr) := by
  unfold stepV; rw [h]; rfl
theorem valT_inj {y0 y1 y2 y3 y4 y5 y6 : Int} {z : T7} (h : Value.agg #[.int .i64 y0, .int .i64 y1, .int .i64 y2, .int .i64 y3, .int .i64 y4, .int .i64 y5, .int .i64 y6] = valT z) : (y0, y1, y2, y3, y4, y5, y6) = z := by
  obtain ⟨z0, z1, z2, z3, z4, z5, z6⟩ := z
  simp only [valT, Value.agg.injEq] at h
  simp at h
  simp only [Prod.mk.injEq]
  exact h
theorem stepV_agg2 (x0 x1 x2 x3 x4 x5 x6 fe fi dr : Int) : ∃ y0 y1 y2 y3 y4 y5 y6, stepV x0 x1 x2 x3 x4 x5 x6 fe fi dr = .agg #[.int .i64 y0, .int .i64 y1, .int .i64 y2, .int .i64 y3, .int .i64 y4, .int .i64 y5, .int .i64 y6] := by
  unfold stepV
  cases stepOk x0 x1 x2 x3 x4 x5 x6 fe fi dr
  · exact ⟨0, 0, 0, 0, 0, 0, 0, rfl⟩
  · exact ⟨_, _, _, _, _, _, _, rfl⟩
end Go.Proofs.Ytjiojofgpdimaaa
