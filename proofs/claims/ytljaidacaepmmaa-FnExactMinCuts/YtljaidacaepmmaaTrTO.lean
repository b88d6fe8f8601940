/-
What is proved: a tree that is handed in, opened.
-/
import Derived.Test.YtljaidacaepmmaaTrT
import Derived.Test.YtljaidacaepmmaaGaO
import Derived.Deep.SlicePairs
import Derived.Deep.Slices
namespace Go.Proofs.Ytljaidacaepmmaa
set_option maxRecDepth 40000
open Go.ChangeShapes Go.WideShapes Go.ChangeAt Go.RowKit
set_option linter.unusedVariables false
set_option linter.unusedSimpArgs false

theorem cell_wideTree {w : World} {b0 : Nat} {t e : TypeId} {v : Value} (ht : Try.prog.underlying t = some (.slice e)) (hv : Cell.okWide Try.prog w .any b0 t v) : Value.okWide Try.prog w .any b0 t v := by
  simp only [Value.okWide, ht]
  exact hv
theorem cells_sliceTree {w : World} {b0 : Nat} {t e : TypeId} {v : Value} (ht : Try.prog.underlying t = some (.slice e)) (hv : Cell.okWide Try.prog w .any b0 t v) : v.cells.toList = [v] := by
  simp only [Cell.okWide, ht] at hv
  cases v <;> simp_all [Cell.ok, Value.cells]
theorem open_Tree' {H : Type} {enc : TypeId × Value → H} {w : World} {b0 : Nat} {f0 f1 : Field} {v : Value} {d : DataW H} {ps : List MemPlace} {sp : Nat → Bool} {held : Bool} (hs : Try.prog.underlying 24 = some (.struct #[f0, f1])) (hts : Try.prog.cellTypes Try.prog.depth 24 = some [2, 22]) (hC : Try.prog.cellsOf 24 = 2)
    (y1 : f1.type = 22) (o1 : f1.offset = 1) (k1 : Try.prog.cellsOf 22 = 1)
    (hv : Value.okWide Try.prog w .any b0 24 v) (h : DataW.Trod enc Try.prog w 0 sp held 24 v d ps) :
    ∃ (x0 : Int) (s1 : Option Addr) (n1 c1 : Nat) (X1 : Nat → Int) (K1 : Nat → Nat) (V1 : Nat → Nat → Int), v = .agg #[.int .i64 x0, .slice s1 n1 c1] ∧ (Lit.int .i64 x0).wf = true ∧ n1 ≤ 9223372036854775807 ∧ (∀ j, j < n1 → K1 j ≤ 9223372036854775807) ∧ RowGat w s1 n1 X1 K1 V1 := by
  obtain ⟨vs, rfl, hc⟩ := open_cells hs (ts := [2, 22]) hts hC hv
  obtain ⟨v0, r0, rfl, q0, ck0⟩ := cellsOk_cons hc
  obtain ⟨v1, r1, rfl, q1, ck1⟩ := cellsOk_cons ck0
  obtain rfl := cellsOk_nil ck1
  obtain ⟨x0, rfl, w0⟩ := cell_int Try.underlying2 q0
  obtain ⟨fuel, hf⟩ := h
  have hf' : DataW.trod enc Try.prog w 0 sp held fuel 24 [.int .i64 x0, v1] = some (d, ps) := hf
  obtain ⟨xs, k', hk, hxy, _, hxl, hfld⟩ := DataW.trod_struct hs hf'
  match xs, hxl with
  | [y0_, y1_], _ =>
    have g1 := hfld 1 f1 rfl
    simp [o1, y1, k1] at g1
    obtain ⟨s1, n1, c1, X1, A1, K1, C1, V1, e1, m1, mk1, R1⟩ := open_GateS Try.underlying22 Try.underlying74 (by kernel_rfl) rfl (by kernel_rfl) rfl (by kernel_rfl) (by kernel_rfl) Try.underlying37 Try.underlying2 (by kernel_rfl) (cell_wideTree Try.underlying22 q1) ⟨_, show DataW.trod enc Try.prog w 0 _ _ _ 22 v1.cells.toList = some _ by rw [cells_sliceTree Try.underlying22 q1]; exact g1⟩
    subst e1
    exact ⟨x0, s1, n1, c1, X1, K1, V1, rfl, w0, m1, mk1, RowGat.of R1⟩
theorem open_Tree {H : Type} {enc : TypeId × Value → H} {w : World} {b0 : Nat} {v : Value} {d : DataW H} {ps : List MemPlace} {sp : Nat → Bool} {held : Bool} (hv : Value.okWide Try.prog w .any b0 24 v) (h : DataW.Trod enc Try.prog w 0 sp held 24 v d ps) :
    ∃ (x0 : Int) (s1 : Option Addr) (n1 c1 : Nat) (X1 : Nat → Int) (K1 : Nat → Nat) (V1 : Nat → Nat → Int), v = .agg #[.int .i64 x0, .slice s1 n1 c1] ∧ (Lit.int .i64 x0).wf = true ∧ n1 ≤ 9223372036854775807 ∧ (∀ j, j < n1 → K1 j ≤ 9223372036854775807) ∧ RowGat w s1 n1 X1 K1 V1 :=
  open_Tree' Try.underlying24 (by kernel_rfl) (by kernel_rfl) rfl rfl (by kernel_rfl) hv h
end Go.Proofs.Ytljaidacaepmmaa
