/-
What is proved: the atoms of what is behind a fire, as both packages count them, where the table of molecules holds what the program's text lays.
-/
import Derived.Test.YtphmdnpmekdglaaDoorWithin
import Derived.Test.YtphmdnpmekdglaaDoorLaid
import Derived.Deep.RegionHeld3
namespace Go.Proofs.YtphmdnpmekdglaaDoor
set_option maxRecDepth 40000
open Go.RowKit
set_option linter.unusedVariables false

/-- The table of molecules, cell for cell: five counts of atoms and the heat, nine times. -/
def tbl : List Int := [1, 0, 0, 2, 0, 394, 1, 0, 0, 1, 0, 111, 1, 0, 0, 0, 0, 0, 0, 2, 0, 1, 0, 242, 0, 2, 0, 0, 0, 0, 0, 0, 1, 2, 0, 297, 0, 0, 1, 0, 0, 0, 0, 0, 0, 1, 0, 0, 0, 0, 0, 0, 1, 0]
def tb (i : Nat) : Int := tbl.getD i 0
def TabW (w : World) : Prop := 1 < w.heap.size ∧ ∀ i, i < 54 → w.cell? ⟨1, i, none⟩ = some (.int .i64 (tb i))
theorem TabW.below {B : Nat} {W w : World} (h : TabW W) (hb : Below B W w) (hB : 1 < B) : TabW w :=
  ⟨Nat.lt_of_lt_of_le h.1 hb.size, fun i hi => (hb.cell (p := ⟨1, i, none⟩) hB).trans (h.2 i hi)⟩
/-- The k-th of nine. -/
def nth (g0 g1 g2 g3 g4 g5 g6 g7 g8 : Int) (k : Nat) : Int := match k with | 0 => g0 | 1 => g1 | 2 => g2 | 3 => g3 | 4 => g4 | 5 => g5 | 6 => g6 | 7 => g7 | _ => g8
theorem idx9_0 (g0 g1 g2 g3 g4 g5 g6 g7 g8 : Int) (w : World) : (Instr.index 54 (.agg #[.int .i64 g0, .int .i64 g1, .int .i64 g2, .int .i64 g3, .int .i64 g4, .int .i64 g5, .int .i64 g6, .int .i64 g7, .int .i64 g8]) (.int .i64 0)).run Tryd.prog w = .ok (.int .i64 g0) w := by kernel_rfl
theorem idx9_1 (g0 g1 g2 g3 g4 g5 g6 g7 g8 : Int) (w : World) : (Instr.index 54 (.agg #[.int .i64 g0, .int .i64 g1, .int .i64 g2, .int .i64 g3, .int .i64 g4, .int .i64 g5, .int .i64 g6, .int .i64 g7, .int .i64 g8]) (.int .i64 1)).run Tryd.prog w = .ok (.int .i64 g1) w := by kernel_rfl
theorem idx9_2 (g0 g1 g2 g3 g4 g5 g6 g7 g8 : Int) (w : World) : (Instr.index 54 (.agg #[.int .i64 g0, .int .i64 g1, .int .i64 g2, .int .i64 g3, .int .i64 g4, .int .i64 g5, .int .i64 g6, .int .i64 g7, .int .i64 g8]) (.int .i64 2)).run Tryd.prog w = .ok (.int .i64 g2) w := by kernel_rfl
theorem idx9_3 (g0 g1 g2 g3 g4 g5 g6 g7 g8 : Int) (w : World) : (Instr.index 54 (.agg #[.int .i64 g0, .int .i64 g1, .int .i64 g2, .int .i64 g3, .int .i64 g4, .int .i64 g5, .int .i64 g6, .int .i64 g7, .int .i64 g8]) (.int .i64 3)).run Tryd.prog w = .ok (.int .i64 g3) w := by kernel_rfl
theorem idx9_4 (g0 g1 g2 g3 g4 g5 g6 g7 g8 : Int) (w : World) : (Instr.index 54 (.agg #[.int .i64 g0, .int .i64 g1, .int .i64 g2, .int .i64 g3, .int .i64 g4, .int .i64 g5, .int .i64 g6, .int .i64 g7, .int .i64 g8]) (.int .i64 4)).run Tryd.prog w = .ok (.int .i64 g4) w := by kernel_rfl
theorem idx9_5 (g0 g1 g2 g3 g4 g5 g6 g7 g8 : Int) (w : World) : (Instr.index 54 (.agg #[.int .i64 g0, .int .i64 g1, .int .i64 g2, .int .i64 g3, .int .i64 g4, .int .i64 g5, .int .i64 g6, .int .i64 g7, .int .i64 g8]) (.int .i64 5)).run Tryd.prog w = .ok (.int .i64 g5) w := by kernel_rfl
theorem idx9_6 (g0 g1 g2 g3 g4 g5 g6 g7 g8 : Int) (w : World) : (Instr.index 54 (.agg #[.int .i64 g0, .int .i64 g1, .int .i64 g2, .int .i64 g3, .int .i64 g4, .int .i64 g5, .int .i64 g6, .int .i64 g7, .int .i64 g8]) (.int .i64 6)).run Tryd.prog w = .ok (.int .i64 g6) w := by kernel_rfl
theorem idx9_7 (g0 g1 g2 g3 g4 g5 g6 g7 g8 : Int) (w : World) : (Instr.index 54 (.agg #[.int .i64 g0, .int .i64 g1, .int .i64 g2, .int .i64 g3, .int .i64 g4, .int .i64 g5, .int .i64 g6, .int .i64 g7, .int .i64 g8]) (.int .i64 7)).run Tryd.prog w = .ok (.int .i64 g7) w := by kernel_rfl
theorem idx9_8 (g0 g1 g2 g3 g4 g5 g6 g7 g8 : Int) (w : World) : (Instr.index 54 (.agg #[.int .i64 g0, .int .i64 g1, .int .i64 g2, .int .i64 g3, .int .i64 g4, .int .i64 g5, .int .i64 g6, .int .i64 g7, .int .i64 g8]) (.int .i64 8)).run Tryd.prog w = .ok (.int .i64 g8) w := by kernel_rfl
theorem idx9 (g0 g1 g2 g3 g4 g5 g6 g7 g8 : Int) (k : Nat) (hk : k < 9) (w : World) : (Instr.index 54 (.agg #[.int .i64 g0, .int .i64 g1, .int .i64 g2, .int .i64 g3, .int .i64 g4, .int .i64 g5, .int .i64 g6, .int .i64 g7, .int .i64 g8]) (.int .i64 (k : Int))).run Tryd.prog w = .ok (.int .i64 (nth g0 g1 g2 g3 g4 g5 g6 g7 g8 k)) w := by
  have : k = 0 ∨ k = 1 ∨ k = 2 ∨ k = 3 ∨ k = 4 ∨ k = 5 ∨ k = 6 ∨ k = 7 ∨ k = 8 := by omega
  rcases this with rfl | rfl | rfl | rfl | rfl | rfl | rfl | rfl | rfl
  · exact idx9_0 g0 g1 g2 g3 g4 g5 g6 g7 g8 w
  · exact idx9_1 g0 g1 g2 g3 g4 g5 g6 g7 g8 w
  · exact idx9_2 g0 g1 g2 g3 g4 g5 g6 g7 g8 w
  · exact idx9_3 g0 g1 g2 g3 g4 g5 g6 g7 g8 w
  · exact idx9_4 g0 g1 g2 g3 g4 g5 g6 g7 g8 w
  · exact idx9_5 g0 g1 g2 g3 g4 g5 g6 g7 g8 w
  · exact idx9_6 g0 g1 g2 g3 g4 g5 g6 g7 g8 w
  · exact idx9_7 g0 g1 g2 g3 g4 g5 g6 g7 g8 w
  · exact idx9_8 g0 g1 g2 g3 g4 g5 g6 g7 g8 w
set_option maxHeartbeats 1000000 in
theorem counts_any (g0 g1 g2 g3 g4 g5 g6 g7 g8 : Int) (w : World) :
    Calls Tryd.prog 33 #[.agg #[.int .i64 g0, .int .i64 g1, .int .i64 g2, .int .i64 g3, .int .i64 g4, .int .i64 g5, .int .i64 g6, .int .i64 g7, .int .i64 g8]] w fun e w' => e = .returned (.agg #[.int .i64 g0, .int .i64 g1, .int .i64 g2, .int .i64 g3, .int .i64 g4, .int .i64 g5, .int .i64 g6, .int .i64 g7, .int .i64 g8]) ∧ Below w.heap.size w w' := by
  go_enter Tryd.func33, Tryd.ntmps33
  go_wp2
  exact bodyPost_ret (v := .agg #[.int .i64 g0, .int .i64 g1, .int .i64 g2, .int .i64 g3, .int .i64 g4, .int .i64 g5, .int .i64 g6, .int .i64 g7, .int .i64 g8]) (by simp [results, Tryd.results33, go_sem]) rfl ⟨rfl, (by repeat (first | with_reducible exact Below.refl _ _ | with_reducible refine Below.setCell ?_ (by first | omega | (simp; done) | (simp; omega)) _ | with_reducible refine bDrewN ?_ _ | with_reducible refine Below.drew ?_ | with_reducible refine Below.alloc ?_ (by first | omega | (simp; done) | (simp; omega)) _))⟩

set_option maxHeartbeats 1000000 in
theorem plus_any (f0 f1 f2 f3 f4 a0 a1 a2 a3 a4 n : Int) (w : World) (p0 : 0 ≤ f0 + a0 * n) (q0 : f0 + a0 * n ≤ 100000000000000) (u0a : -100000000000000 ≤ a0 * n) (u0b : a0 * n ≤ 100000000000000) (p1 : 0 ≤ f1 + a1 * n) (q1 : f1 + a1 * n ≤ 100000000000000) (u1a : -100000000000000 ≤ a1 * n) (u1b : a1 * n ≤ 100000000000000) (p2 : 0 ≤ f2 + a2 * n) (q2 : f2 + a2 * n ≤ 100000000000000) (u2a : -100000000000000 ≤ a2 * n) (u2b : a2 * n ≤ 100000000000000) (p3 : 0 ≤ f3 + a3 * n) (q3 : f3 + a3 * n ≤ 100000000000000) (u3a : -100000000000000 ≤ a3 * n) (u3b : a3 * n ≤ 100000000000000) (p4 : 0 ≤ f4 + a4 * n) (q4 : f4 + a4 * n ≤ 100000000000000) (u4a : -100000000000000 ≤ a4 * n) (u4b : a4 * n ≤ 100000000000000) :
    Calls Tryd.prog 35 #[.agg #[.int .i64 f0, .int .i64 f1, .int .i64 f2, .int .i64 f3, .int .i64 f4], .agg #[.int .i64 a0, .int .i64 a1, .int .i64 a2, .int .i64 a3, .int .i64 a4], .int .i64 n] w fun e w' => e = .returned (.agg #[.int .i64 (f0 + a0 * n), .int .i64 (f1 + a1 * n), .int .i64 (f2 + a2 * n), .int .i64 (f3 + a3 * n), .int .i64 (f4 + a4 * n)]) ∧ Below w.heap.size w w' := by
  go_enter Tryd.func35, Tryd.ntmps35
  go_wp2
  exact bodyPost_ret (v := .agg #[.int .i64 (f0 + a0 * n), .int .i64 (f1 + a1 * n), .int .i64 (f2 + a2 * n), .int .i64 (f3 + a3 * n), .int .i64 (f4 + a4 * n)]) (by simp [results, Tryd.results35, go_sem]) rfl ⟨rfl, (by repeat (first | with_reducible exact Below.refl _ _ | with_reducible refine Below.setCell ?_ (by first | omega | (simp; done) | (simp; omega)) _ | with_reducible refine bDrewN ?_ _ | with_reducible refine Below.drew ?_ | with_reducible refine Below.alloc ?_ (by first | omega | (simp; done) | (simp; omega)) _))⟩
end Go.Proofs.YtphmdnpmekdglaaDoor
