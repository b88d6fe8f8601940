/-
What is proved: a net that is handed in, opened.
-/
import Derived.Test.YtgclplckpphkcaaNtT
import Derived.Test.YtgclplckpphkcaaDucE
import Derived.Test.YtgclplckpphkcaaOpenI
import Derived.Deep.SlicePairs
import Derived.Deep.Slices
namespace Go.Proofs.Ytgclplckpphkcaa
set_option maxRecDepth 40000
open Go.ChangeShapes Go.WideShapes Go.ChangeAt Go.RowKit
set_option linter.unusedVariables false
set_option linter.unusedSimpArgs false

theorem cell_wideNet {w : World} {b0 : Nat} {t e : TypeId} {v : Value} (ht : Try.prog.underlying t = some (.slice e)) (hv : Cell.okWide Try.prog w .any b0 t v) : Value.okWide Try.prog w .any b0 t v := by
  simp only [Value.okWide, ht]
  exact hv
theorem cells_sliceNet {w : World} {b0 : Nat} {t e : TypeId} {v : Value} (ht : Try.prog.underlying t = some (.slice e)) (hv : Cell.okWide Try.prog w .any b0 t v) : v.cells.toList = [v] := by
  simp only [Cell.okWide, ht] at hv
  cases v <;> simp_all [Cell.ok, Value.cells]
theorem open_Net' {H : Type} {enc : TypeId × Value → H} {w : World} {b0 : Nat} {f0 f1 f2 : Field} {v : Value} {d : DataW H} {ps : List MemPlace} {sp : Nat → Bool} {held : Bool} (hs : Try.prog.underlying 25 = some (.struct #[f0, f1, f2])) (hts : Try.prog.cellTypes Try.prog.depth 25 = some [2, 22, 23]) (hC : Try.prog.cellsOf 25 = 3)
    (y1 : f1.type = 22) (o1 : f1.offset = 1) (k1 : Try.prog.cellsOf 22 = 1) (y2 : f2.type = 23) (o2 : f2.offset = 2) (k2 : Try.prog.cellsOf 23 = 1)
    (hv : Value.okWide Try.prog w .any b0 25 v) (h : DataW.Trod enc Try.prog w 0 sp held 25 v d ps) :
    ∃ (x0 : Int) (s1 : Option Addr) (n1 c1 : Nat) (V1 : Nat → Int × Int) (s2 : Option Addr) (n2 c2 : Nat) (V2 : Nat → Int), v = .agg #[.int .i64 x0, .slice s1 n1 c1, .slice s2 n2 c2] ∧ (Lit.int .i64 x0).wf = true ∧ n1 ≤ 9223372036854775807 ∧ RowDuct w s1 n1 V1 ∧ n2 ≤ 9223372036854775807 ∧ RowI w s2 n2 V2 := by
  obtain ⟨vs, rfl, hc⟩ := open_cells hs (ts := [2, 22, 23]) hts hC hv
  obtain ⟨v0, r0, rfl, q0, ck0⟩ := cellsOk_cons hc
  obtain ⟨v1, r1, rfl, q1, ck1⟩ := cellsOk_cons ck0
  obtain ⟨v2, r2, rfl, q2, ck2⟩ := cellsOk_cons ck1
  obtain rfl := cellsOk_nil ck2
  obtain ⟨x0, rfl, w0⟩ := cell_int Try.underlying2 q0
  obtain ⟨fuel, hf⟩ := h
  have hf' : DataW.trod enc Try.prog w 0 sp held fuel 25 [.int .i64 x0, v1, v2] = some (d, ps) := hf
  obtain ⟨xs, k', hk, hxy, _, hxl, hfld⟩ := DataW.trod_struct hs hf'
  match xs, hxl with
  | [y0_, y1_, y2_], _ =>
    have g1 := hfld 1 f1 rfl
    simp [o1, y1, k1] at g1
    obtain ⟨s1, n1, c1, V1, e1, m1, R1⟩ := open_DuctS Try.underlying22 Try.underlying61 (by kernel_rfl) rfl rfl (by kernel_rfl) (by kernel_rfl) (by kernel_rfl) (by kernel_rfl) (cell_wideNet Try.underlying22 q1) ⟨_, show DataW.trod enc Try.prog w 0 _ _ _ 22 v1.cells.toList = some _ by rw [cells_sliceNet Try.underlying22 q1]; exact g1⟩
    have g2 := hfld 2 f2 rfl
    simp [o2, y2, k2] at g2
    obtain ⟨s2, n2, c2, V2, e2, m2, R2, _⟩ := open_i64s Try.underlying23 Try.underlying2 (by kernel_rfl) (cell_wideNet Try.underlying23 q2) ⟨_, show DataW.trod enc Try.prog w 0 _ _ _ 23 v2.cells.toList = some _ by rw [cells_sliceNet Try.underlying23 q2]; exact g2⟩
    subst e1
    subst e2
    exact ⟨x0, s1, n1, c1, V1, s2, n2, c2, V2, rfl, w0, m1, R1, m2, R2⟩
theorem open_Net {H : Type} {enc : TypeId × Value → H} {w : World} {b0 : Nat} {v : Value} {d : DataW H} {ps : List MemPlace} {sp : Nat → Bool} {held : Bool} (hv : Value.okWide Try.prog w .any b0 25 v) (h : DataW.Trod enc Try.prog w 0 sp held 25 v d ps) :
    ∃ (x0 : Int) (s1 : Option Addr) (n1 c1 : Nat) (V1 : Nat → Int × Int) (s2 : Option Addr) (n2 c2 : Nat) (V2 : Nat → Int), v = .agg #[.int .i64 x0, .slice s1 n1 c1, .slice s2 n2 c2] ∧ (Lit.int .i64 x0).wf = true ∧ n1 ≤ 9223372036854775807 ∧ RowDuct w s1 n1 V1 ∧ n2 ≤ 9223372036854775807 ∧ RowI w s2 n2 V2 :=
  open_Net' Try.underlying25 (by kernel_rfl) (by kernel_rfl) rfl rfl (by kernel_rfl) rfl rfl (by kernel_rfl) hv h
end Go.Proofs.Ytgclplckpphkcaa
