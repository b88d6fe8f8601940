/-
What is proved: a book that is handed in, opened.
-/
import Derived.Test.YtabmkklnbaomnaaBkT
import Derived.Test.YtabmkklnbaomnaaPeO
import Derived.Deep.SlicePairs
import Derived.Deep.Slices
namespace Go.Proofs.Ytabmkklnbaomnaa
set_option maxRecDepth 40000
open Go.ChangeShapes Go.WideShapes Go.ChangeAt Go.RowKit
set_option linter.unusedVariables false
set_option linter.unusedSimpArgs false

theorem cell_wideBook {w : World} {b0 : Nat} {t e : TypeId} {v : Value} (ht : Try.prog.underlying t = some (.slice e)) (hv : Cell.okWide Try.prog w .any b0 t v) : Value.okWide Try.prog w .any b0 t v := by
  simp only [Value.okWide, ht]
  exact hv
theorem cells_sliceBook {w : World} {b0 : Nat} {t e : TypeId} {v : Value} (ht : Try.prog.underlying t = some (.slice e)) (hv : Cell.okWide Try.prog w .any b0 t v) : v.cells.toList = [v] := by
  simp only [Cell.okWide, ht] at hv
  cases v <;> simp_all [Cell.ok, Value.cells]
theorem open_Book' {H : Type} {enc : TypeId × Value → H} {w : World} {b0 : Nat} {f0 : Field} {v : Value} {d : DataW H} {ps : List MemPlace} {sp : Nat → Bool} {held : Bool} (hs : Try.prog.underlying 40 = some (.struct #[f0])) (hts : Try.prog.cellTypes Try.prog.depth 40 = some [38]) (hC : Try.prog.cellsOf 40 = 1)
    (y0 : f0.type = 38) (o0 : f0.offset = 0) (k0 : Try.prog.cellsOf 38 = 1)
    (hv : Value.okWide Try.prog w .any b0 40 v) (h : DataW.Trod enc Try.prog w 0 sp held 40 v d ps) :
    ∃ (s0 : Option Addr) (n0 c0 : Nat) (X0 : Nat → Int) (Y0 : Nat → Int) (K0 : Nat → Nat) (V0 : Nat → Nat → Int), v = .agg #[.slice s0 n0 c0] ∧ n0 ≤ 9223372036854775807 ∧ (∀ j, j < n0 → K0 j ≤ 9223372036854775807) ∧ RowPer w s0 n0 X0 Y0 K0 V0 := by
  obtain ⟨vs, rfl, hc⟩ := open_cells hs (ts := [38]) hts hC hv
  obtain ⟨v0, r0, rfl, q0, ck0⟩ := cellsOk_cons hc
  obtain rfl := cellsOk_nil ck0
  obtain ⟨fuel, hf⟩ := h
  have hf' : DataW.trod enc Try.prog w 0 sp held fuel 40 [v0] = some (d, ps) := hf
  obtain ⟨xs, k', hk, hxy, _, hxl, hfld⟩ := DataW.trod_struct hs hf'
  match xs, hxl with
  | [y0_], _ =>
    have g0 := hfld 0 f0 rfl
    simp [o0, y0, k0] at g0
    obtain ⟨s0, n0, c0, X0, Y0, A0, K0, C0, V0, e0, m0, mk0, R0⟩ := open_PermitS Try.underlying38 Try.underlying90 (by kernel_rfl) rfl (by kernel_rfl) rfl (by kernel_rfl) rfl (by kernel_rfl) (by kernel_rfl) (by kernel_rfl) Try.underlying23 Try.underlying2 (by kernel_rfl) (cell_wideBook Try.underlying38 q0) ⟨_, show DataW.trod enc Try.prog w 0 _ _ _ 38 v0.cells.toList = some _ by rw [cells_sliceBook Try.underlying38 q0]; exact g0⟩
    subst e0
    exact ⟨s0, n0, c0, X0, Y0, K0, V0, rfl, m0, mk0, RowPer.of R0⟩
theorem open_Book {H : Type} {enc : TypeId × Value → H} {w : World} {b0 : Nat} {v : Value} {d : DataW H} {ps : List MemPlace} {sp : Nat → Bool} {held : Bool} (hv : Value.okWide Try.prog w .any b0 40 v) (h : DataW.Trod enc Try.prog w 0 sp held 40 v d ps) :
    ∃ (s0 : Option Addr) (n0 c0 : Nat) (X0 : Nat → Int) (Y0 : Nat → Int) (K0 : Nat → Nat) (V0 : Nat → Nat → Int), v = .agg #[.slice s0 n0 c0] ∧ n0 ≤ 9223372036854775807 ∧ (∀ j, j < n0 → K0 j ≤ 9223372036854775807) ∧ RowPer w s0 n0 X0 Y0 K0 V0 :=
  open_Book' Try.underlying40 (by kernel_rfl) (by kernel_rfl) rfl rfl (by kernel_rfl) hv h
end Go.Proofs.Ytabmkklnbaomnaa
