/-
What is proved: DrawFewest: any net and any place.
-/
import Derived.Test.YtikcfpjfcpbfcaaNdDz
import Derived.Test.YtikcfpjfcpbfcaaRdCz
import Derived.Test.YtikcfpjfcpbfcaaZcA
import Derived.Deep.DeepCutAuto
import Derived.Deep.RegionHeldLaw
namespace Go.Proofs.Ytikcfpjfcpbfcaa
set_option maxRecDepth 40000
open Go.ChangeShapes Go.WideShapes Go.ChangeAt Go.RowKit
set_option linter.unusedVariables false
set_option linter.unusedSimpArgs false

theorem Lst.duct {base : Nat} {W : World} {t : Option Addr} {k kd : Nat} {U : Nat → Int} (h : Lst base 106 2 W (.slice t k kd) k U) : RowDuct W t k (fun i => (U (i * 2), U (i * 2 + 1))) := fun j hj => by
  obtain ⟨t', c', e, ho⟩ := h.own
  simp only [Value.slice.injEq] at e
  obtain ⟨rfl, -, -⟩ := e
  obtain ⟨b, e1, _, a2, a3, _⟩ := ho (j * 2) (by omega)
  obtain ⟨b', e2, _, _, b3, _⟩ := ho (j * 2 + 1) (by omega)
  rw [e1] at e2
  cases e2
  exact ⟨b, 0, e1, a2, by rw [Nat.zero_add]; exact a3, by rw [Nat.zero_add]; exact b3⟩
theorem Lst.src {base : Nat} {W : World} {t : Option Addr} {k ks : Nat} {U : Nat → Int} (h : Lst base 2 1 W (.slice t k ks) k U) : RowI W t k U := by
  obtain ⟨t', c', e, ho⟩ := h.own
  simp only [Value.slice.injEq] at e
  obtain ⟨rfl, -, -⟩ := e
  rw [Nat.mul_one] at ho
  exact ho.row
end Go.Proofs.Ytikcfpjfcpbfcaa
