/-
What is proved: impl.GiveBack.
-/
import Derived.Test.YtikcfpjfcpbfcaaZcH
import Derived.Test.YtikcfpjfcpbfcaaDlIz
import Derived.Test.YtikcfpjfcpbfcaaTgIz
import Derived.Test.YtikcfpjfcpbfcaaZcG
import Derived.Test.YtikcfpjfcpbfcaaBcqz
import Derived.Deep.DeepCutAuto
namespace Go.Proofs.Ytikcfpjfcpbfcaa
set_option maxRecDepth 40000
open Go.ChangeShapes Go.WideShapes Go.ChangeAt Go.RowKit
set_option linter.unusedVariables false
set_option linter.unusedSimpArgs false

/-- What the last region reads. -/
def GbC (w : World) (gX gB gN g o : Nat) (xv bv v0 v1 v2 lv : Value) : Prop := w.cell? ⟨gX, 0, none⟩ = some xv ∧ gX < w.heap.size ∧ w.cell? ⟨gB, 0, none⟩ = some bv ∧ gB < w.heap.size ∧ w.cell? ⟨gN, 0, none⟩ = some v0 ∧ w.cell? ⟨gN, 1, none⟩ = some v1 ∧ w.cell? ⟨gN, 2, none⟩ = some v2 ∧ gN < w.heap.size ∧ w.cell? ⟨g, o, none⟩ = some lv ∧ g < w.heap.size
theorem GbC.below {w w' : World} {gX gB gN g o : Nat} {xv bv v0 v1 v2 lv : Value} (h : GbC w gX gB gN g o xv bv v0 v1 v2 lv) (hb : Below w.heap.size w w') : GbC w' gX gB gN g o xv bv v0 v1 v2 lv := by
  obtain ⟨h1, h2, h3, h4, h5, h6, h7, h8, h9, h10⟩ := h
  exact ⟨(hb.cell (p := ⟨gX, 0, none⟩) h2).trans h1, Nat.lt_of_lt_of_le h2 hb.size, (hb.cell (p := ⟨gB, 0, none⟩) h4).trans h3, Nat.lt_of_lt_of_le h4 hb.size, (hb.cell (p := ⟨gN, 0, none⟩) h8).trans h5, (hb.cell (p := ⟨gN, 1, none⟩) h8).trans h6, (hb.cell (p := ⟨gN, 2, none⟩) h8).trans h7, Nat.lt_of_lt_of_le h8 hb.size, (hb.cell (p := ⟨g, o, none⟩) h10).trans h9, Nat.lt_of_lt_of_le h10 hb.size⟩
theorem GbC.beside {w w' : World} {gX gB gN g o r : Nat} {xv bv v0 v1 v2 lv : Value} (h : GbC w gX gB gN g o xv bv v0 v1 v2 lv) (hb : Beside r w w') (r1 : gX ≠ r) (r2 : gB ≠ r) (r3 : gN ≠ r) (r4 : g ≠ r) : GbC w' gX gB gN g o xv bv v0 v1 v2 lv := by
  obtain ⟨h1, h2, h3, h4, h5, h6, h7, h8, h9, h10⟩ := h
  have z := hb.2.2.2.1
  exact ⟨(hb.cell (p := ⟨gX, 0, none⟩) h2 r1).trans h1, Nat.lt_of_lt_of_le h2 z, (hb.cell (p := ⟨gB, 0, none⟩) h4 r2).trans h3, Nat.lt_of_lt_of_le h4 z, (hb.cell (p := ⟨gN, 0, none⟩) h8 r3).trans h5, (hb.cell (p := ⟨gN, 1, none⟩) h8 r3).trans h6, (hb.cell (p := ⟨gN, 2, none⟩) h8 r3).trans h7, Nat.lt_of_lt_of_le h8 z, (hb.cell (p := ⟨g, o, none⟩) h10 r4).trans h9, Nat.lt_of_lt_of_le h10 z⟩
end Go.Proofs.Ytikcfpjfcpbfcaa
