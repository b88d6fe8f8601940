/-
What is proved: three pairs with parts of at most 300 come back from their sequences within a ten millionth, as floats.
-/
import Derived.Test.YtjahjhddokaopaaPhN
namespace Go.Proofs.Ytjahjhddokaopaa
set_option maxRecDepth 40000
open Go.ChangeShapes Go.WideShapes Go.ChangeAt Go.RowKit
set_option linter.unusedVariables false
set_option linter.unusedSimpArgs false

theorem phases_num {a1 a2 b1 b2 c1 c2 : Nat} (ha1 : In3 a1) (ha2 : In3 a2) (hb1 : In3 b1) (hb2 : In3 b2) (hc1 : In3 c1) (hc2 : In3 c2) : ∃ X1 X2 Y1 Y2 Z1 Z2 r0 r1 r2 r3 r4 r5, thirdO (opO .add (opO .add (some a1) (some b1)) (some c1)) = some X1 ∧ thirdO (opO .add (opO .add (some a2) (some b2)) (some c2)) = some X2 ∧ thirdO (sumRe (some a1) T1 T2 (some b1) (some b2) T1 U2 (some c1) (some c2)) = some Y1 ∧ thirdO (sumIm (some a2) T1 T2 (some b1) (some b2) T1 U2 (some c1) (some c2)) = some Y2 ∧ thirdO (sumRe (some a1) T1 U2 (some b1) (some b2) T1 T2 (some c1) (some c2)) = some Z1 ∧ thirdO (sumIm (some a2) T1 U2 (some b1) (some b2) T1 T2 (some c1) (some c2)) = some Z2 ∧ opO .add (opO .add (some X1) (some Y1)) (some Z1) = some r0 ∧ opO .add (opO .add (some X2) (some Y2)) (some Z2) = some r1 ∧ sumRe (some X1) T1 U2 (some Y1) (some Y2) T1 T2 (some Z1) (some Z2) = some r2 ∧ sumIm (some X2) T1 U2 (some Y1) (some Y2) T1 T2 (some Z1) (some Z2) = some r3 ∧ sumRe (some X1) T1 T2 (some Y1) (some Y2) T1 U2 (some Z1) (some Z2) = some r4 ∧ sumIm (some X2) T1 T2 (some Y1) (some Y2) T1 U2 (some Z1) (some Z2) = some r5 ∧ Close r0 a1 ∧ Close r1 a2 ∧ Close r2 b1 ∧ Close r3 b2 ∧ Close r4 c1 ∧ Close r5 c2 := by
  obtain ⟨X1, eX1, dX1, lX1, uX1⟩ := seq_zero ha1 hb1 hc1
  obtain ⟨X2, eX2, dX2, lX2, uX2⟩ := seq_zero ha2 hb2 hc2
  obtain ⟨Y1, eY1, dY1, lY1, uY1⟩ := seq_part ha1 hb1 hb2 hc1 hc2 sp_rv.1 sp_rv.2.1
  obtain ⟨Y2, eY2, dY2, lY2, uY2⟩ := seq_partI ha2 hb1 hb2 hc1 hc2 sp_rv.1 sp_rv.2.1
  obtain ⟨Z1, eZ1, dZ1, lZ1, uZ1⟩ := seq_part ha1 hb1 hb2 hc1 hc2 sp_rv.2.1 sp_rv.1
  obtain ⟨Z2, eZ2, dZ2, lZ2, uZ2⟩ := seq_partI ha2 hb1 hb2 hc1 hc2 sp_rv.2.1 sp_rv.1
  have hS := sp_rv.2.2
  rw [hS.1] at lY1 uY1 lY2 uY2 lZ1 uZ1 lZ2 uZ2
  have s1 := sp_rv.1.2.1
  have s2 := sp_rv.1.2.2
  obtain ⟨-, d1, d2⟩ := hS
  have k1 := ha1.2
  have k2 := ha2.2
  have k3 := hb1.2
  have k4 := hb2.2
  have k5 := hc1.2
  have k6 := hc2.2
  have w3 : ∀ {x : Nat}, Bd 1000 x → Bd 3000 x := fun h => ⟨h.1, by have := h.2; grind, by have := h.2; grind⟩
  obtain ⟨r0, q0, f0, x0, y0⟩ := sum_three (w3 dX1) (w3 dY1) (w3 dZ1)
  obtain ⟨r1, q1, f1, x1, y1⟩ := sum_three (w3 dX2) (w3 dY2) (w3 dZ2)
  obtain ⟨r2, q2, f2, x2, y2⟩ := sumRe_num dX1 half_rv.1 sp_rv.2.1 dY1 dY2 half_rv.1 sp_rv.1 dZ1 dZ2
  rw [half_rv.2, sp_rv.2.2.1] at x2 y2
  obtain ⟨r3, q3, f3, x3, y3⟩ := sumIm_num dX2 half_rv.1 sp_rv.2.1 dY1 dY2 half_rv.1 sp_rv.1 dZ1 dZ2
  rw [half_rv.2, sp_rv.2.2.1] at x3 y3
  obtain ⟨r4, q4, f4, x4, y4⟩ := sumRe_num dX1 half_rv.1 sp_rv.1 dY1 dY2 half_rv.1 sp_rv.2.1 dZ1 dZ2
  rw [half_rv.2, sp_rv.2.2.1] at x4 y4
  obtain ⟨r5, q5, f5, x5, y5⟩ := sumIm_num dX2 half_rv.1 sp_rv.1 dY1 dY2 half_rv.1 sp_rv.2.1 dZ1 dZ2
  rw [half_rv.2, sp_rv.2.2.1] at x5 y5
  generalize rv SP = S at *
  obtain ⟨m2, n2⟩ := back_mid (S := S) (p := rv b1 - rv c1) (q := rv Y2 - rv Z2) (e := 4 / 1000000000) s1 s2 d1 d2 (by grind) (by grind) (by grind) (by grind) (by grind)
  obtain ⟨m3, n3⟩ := back_mid (S := S) (p := rv b2 - rv c2) (q := rv Z1 - rv Y1) (e := 4 / 1000000000) s1 s2 d1 d2 (by grind) (by grind) (by grind) (by grind) (by grind)
  obtain ⟨m4, n4⟩ := back_mid (S := S) (p := rv c1 - rv b1) (q := rv Z2 - rv Y2) (e := 4 / 1000000000) s1 s2 d1 d2 (by grind) (by grind) (by grind) (by grind) (by grind)
  obtain ⟨m5, n5⟩ := back_mid (S := S) (p := rv c2 - rv b2) (q := rv Y1 - rv Z1) (e := 4 / 1000000000) s1 s2 d1 d2 (by grind) (by grind) (by grind) (by grind) (by grind)
  clear d1 d2 s1 s2
  refine ⟨X1, X2, Y1, Y2, Z1, Z2, r0, r1, r2, r3, r4, r5, eX1, eX2, eY1, eY2, eZ1, eZ2, q0, q1, q2, q3, q4, q5, ⟨f0, ?_, ?_⟩, ⟨f1, ?_, ?_⟩, ⟨f2, ?_, ?_⟩, ⟨f3, ?_, ?_⟩, ⟨f4, ?_, ?_⟩, ⟨f5, ?_, ?_⟩⟩
  · grind
  · grind
  · grind
  · grind
  · grind
  · grind
  · grind
  · grind
  · grind
  · grind
  · grind
  · grind
end Go.Proofs.Ytjahjhddokaopaa
