/-
What is proved: a link that is handed in, a struct of numbers, a flag and a list of int64s, opened.
-/
import Derived.Test.YtiekcafibdiljaaOpenI
import Derived.Deep.SlicePairs
import Derived.Deep.Slices
namespace Go.Proofs.Ytiekcafibdiljaa
set_option maxRecDepth 40000
open Go.ChangeShapes Go.WideShapes Go.ChangeAt Go.RowKit
set_option linter.unusedVariables false
set_option linter.unusedSimpArgs false

theorem cell_wide {w : World} {b0 : Nat} {t e : TypeId} {v : Value} (ht : Try.prog.underlying t = some (.slice e)) (hv : Cell.okWide Try.prog w .any b0 t v) : Value.okWide Try.prog w .any b0 t v := by
  simp only [Value.okWide, ht]
  exact hv
theorem cells_slice {w : World} {b0 : Nat} {t e : TypeId} {v : Value} (ht : Try.prog.underlying t = some (.slice e)) (hv : Cell.okWide Try.prog w .any b0 t v) : v.cells.toList = [v] := by
  simp only [Cell.okWide, ht] at hv
  cases v <;> simp_all [Cell.ok, Value.cells]
/-- A link opened. -/
theorem open_link {H : Type} {enc : TypeId × Value → H} {w : World} {b0 : Nat} {t l i e bt : TypeId} {f0 f1 f2 f3 f4 f5 : Field} {v : Value} {d : DataW H} {ps : List MemPlace} {sp : Nat → Bool} {held : Bool} (hs : Try.prog.underlying t = some (.struct #[f0, f1, f2, f3, f4, f5])) (hts : Try.prog.cellTypes Try.prog.depth t = some [i, bt, i, i, i, l]) (hC : Try.prog.cellsOf t = 6)
    (y : f5.type = l) (o : f5.offset = 5) (cl : Try.prog.cellsOf l = 1) (hi : Try.prog.underlying i = some (.int .i64)) (hb : Try.prog.underlying bt = some .bool) (ht : Try.prog.underlying l = some (.slice e)) (he : Try.prog.underlying e = some (.int .i64)) (ce : Try.prog.cellsOf e = 1)
    (hv : Value.okWide Try.prog w .any b0 t v) (h : DataW.Trod enc Try.prog w 0 sp held t v d ps) :
    ∃ (x0 : Int) (x1 : Bool) (x2 : Int) (x3 : Int) (x4 : Int) (s : Option Addr) (n c : Nat) (V : Nat → Int), v = .agg #[.int .i64 x0, .bool x1, .int .i64 x2, .int .i64 x3, .int .i64 x4, .slice s n c] ∧ (Lit.int .i64 x0).wf = true ∧ (Lit.int .i64 x2).wf = true ∧ (Lit.int .i64 x3).wf = true ∧ (Lit.int .i64 x4).wf = true ∧ n ≤ 9223372036854775807 ∧ RowI w s n V ∧ ∀ j, j < n → -9223372036854775808 ≤ V j ∧ V j ≤ 9223372036854775807 := by
  obtain ⟨vs, rfl, hc⟩ := open_cells hs (ts := [i, bt, i, i, i, l]) hts hC hv
  obtain ⟨v0, r0, rfl, o0, c0⟩ := cellsOk_cons hc
  obtain ⟨v1, r1, rfl, o1, c1⟩ := cellsOk_cons c0
  obtain ⟨v2, r2, rfl, o2, c2⟩ := cellsOk_cons c1
  obtain ⟨v3, r3, rfl, o3, c3⟩ := cellsOk_cons c2
  obtain ⟨v4, r4, rfl, o4, c4⟩ := cellsOk_cons c3
  obtain ⟨v5, r5, rfl, o5, c5⟩ := cellsOk_cons c4
  obtain rfl := cellsOk_nil c5
  obtain ⟨x0, rfl, w0⟩ := cell_int hi o0
  obtain ⟨x1, rfl⟩ := cell_bool hb o1
  obtain ⟨x2, rfl, w2⟩ := cell_int hi o2
  obtain ⟨x3, rfl, w3⟩ := cell_int hi o3
  obtain ⟨x4, rfl, w4⟩ := cell_int hi o4
  obtain ⟨fuel, hf⟩ := h
  have hf' : DataW.trod enc Try.prog w 0 sp held fuel t [.int .i64 x0, .bool x1, .int .i64 x2, .int .i64 x3, .int .i64 x4, v5] = some (d, ps) := hf
  obtain ⟨xs, k', hk, hxy, _, hxl, hfld⟩ := DataW.trod_struct hs hf'
  match xs, hxl with
  | [y0, y1, y2, y3, y4, y5], _ =>
    have g := hfld 5 f5 rfl
    simp [o, y, cl] at g
    obtain ⟨s, n, c, V, e1, e2, e3, e4⟩ := open_i64s ht he ce (cell_wide ht o5) ⟨_, show DataW.trod enc Try.prog w 0 _ _ _ l v5.cells.toList = some _ by rw [cells_slice ht o5]; exact g⟩
    subst e1
    exact ⟨x0, x1, x2, x3, x4, s, n, c, V, rfl, w0, w2, w3, w4, e2, e3, e4⟩
end Go.Proofs.Ytiekcafibdiljaa
