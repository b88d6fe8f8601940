/-
What is proved: addresses of cells, and where a slice that is handed in lies.
-/
import Derived.Test.YtmoeoepinlcmdaaDoorOwn
import Derived.Deep.Slices
namespace Go.Proofs.YtmoeoepinlcmdaaDoor
set_option maxRecDepth 40000
open Go.ChangeShapes Go.WideShapes Go.ChangeAt Go.RowKit
set_option linter.unusedVariables false

theorem addr_add (b o k : Nat) : (⟨b, o, none⟩ : Addr).add k = ⟨b, o + k, none⟩ := by
  unfold Addr.add
  split
  · rename_i h; subst h; rfl
  · rfl
theorem slice_spot {w : World} {b0 : Nat} {t e : TypeId} {a : Addr} {n c : Nat} (ht : Tryd.prog.underlying t = some (.slice e)) (hv : Value.okWide Tryd.prog w .any b0 t (.slice (some a) n c)) : a.spot = none := by
  simp only [Value.okWide, ht, Cell.okWide, Cell.ok] at hv
  exact hv.2.2.2.1
theorem cell_lt {w : World} {p : Addr} {v : Value} (h : w.cell? p = some v) : p.block < w.heap.size := by
  rcases Nat.lt_or_ge p.block w.heap.size with z | z
  · exact z
  · exfalso
    simp [World.cell?, Array.getElem?_eq_none z] at h
end Go.Proofs.YtmoeoepinlcmdaaDoor
