/-
What is proved: a board that is handed in, opened.
-/
import Derived.Test.YtlbbdifmjdpfiaaBdT
import Derived.Test.YtlbbdifmjdpfiaaAlE
import Derived.Deep.SlicePairs
import Derived.Deep.Slices
namespace Go.Proofs.Ytlbbdifmjdpfiaa
set_option maxRecDepth 40000
open Go.ChangeShapes Go.WideShapes Go.ChangeAt Go.RowKit
set_option linter.unusedVariables false
set_option linter.unusedSimpArgs false

theorem cell_wideBoard {w : World} {b0 : Nat} {t e : TypeId} {v : Value} (ht : Try.prog.underlying t = some (.slice e)) (hv : Cell.okWide Try.prog w .any b0 t v) : Value.okWide Try.prog w .any b0 t v := by
  simp only [Value.okWide, ht]
  exact hv
theorem cells_sliceBoard {w : World} {b0 : Nat} {t e : TypeId} {v : Value} (ht : Try.prog.underlying t = some (.slice e)) (hv : Cell.okWide Try.prog w .any b0 t v) : v.cells.toList = [v] := by
  simp only [Cell.okWide, ht] at hv
  cases v <;> simp_all [Cell.ok, Value.cells]
theorem open_Board' {H : Type} {enc : TypeId × Value → H} {w : World} {b0 : Nat} {f0 f1 : Field} {v : Value} {d : DataW H} {ps : List MemPlace} {sp : Nat → Bool} {held : Bool} (hs : Try.prog.underlying 47 = some (.struct #[f0, f1])) (hts : Try.prog.cellTypes Try.prog.depth 47 = some [2, 45]) (hC : Try.prog.cellsOf 47 = 2)
    (y1 : f1.type = 45) (o1 : f1.offset = 1) (k1 : Try.prog.cellsOf 45 = 1)
    (hv : Value.okWide Try.prog w .any b0 47 v) (h : DataW.Trod enc Try.prog w 0 sp held 47 v d ps) :
    ∃ (x0 : Int) (s1 : Option Addr) (n1 c1 : Nat) (V1 : Nat → Int × Int × Int × Bool × Int), v = .agg #[.int .i64 x0, .slice s1 n1 c1] ∧ (Lit.int .i64 x0).wf = true ∧ n1 ≤ 9223372036854775807 ∧ RowAlarm w s1 n1 V1 := by
  obtain ⟨vs, rfl, hc⟩ := open_cells hs (ts := [2, 45]) hts hC hv
  obtain ⟨v0, r0, rfl, q0, ck0⟩ := cellsOk_cons hc
  obtain ⟨v1, r1, rfl, q1, ck1⟩ := cellsOk_cons ck0
  obtain rfl := cellsOk_nil ck1
  obtain ⟨x0, rfl, w0⟩ := cell_int Try.underlying2 q0
  obtain ⟨fuel, hf⟩ := h
  have hf' : DataW.trod enc Try.prog w 0 sp held fuel 47 [.int .i64 x0, v1] = some (d, ps) := hf
  obtain ⟨xs, k', hk, hxy, _, hxl, hfld⟩ := DataW.trod_struct hs hf'
  match xs, hxl with
  | [y0_, y1_], _ =>
    have g1 := hfld 1 f1 rfl
    simp [o1, y1, k1] at g1
    obtain ⟨s1, n1, c1, V1, e1, m1, R1⟩ := open_AlarmS Try.underlying45 Try.underlying118 (by kernel_rfl) rfl rfl rfl rfl rfl (by kernel_rfl) (by kernel_rfl) (by kernel_rfl) (by kernel_rfl) (by kernel_rfl) (by kernel_rfl) (by kernel_rfl) (by kernel_rfl) (by kernel_rfl) (by kernel_rfl) (cell_wideBoard Try.underlying45 q1) ⟨_, show DataW.trod enc Try.prog w 0 _ _ _ 45 v1.cells.toList = some _ by rw [cells_sliceBoard Try.underlying45 q1]; exact g1⟩
    subst e1
    exact ⟨x0, s1, n1, c1, V1, rfl, w0, m1, R1⟩
theorem open_Board {H : Type} {enc : TypeId × Value → H} {w : World} {b0 : Nat} {v : Value} {d : DataW H} {ps : List MemPlace} {sp : Nat → Bool} {held : Bool} (hv : Value.okWide Try.prog w .any b0 47 v) (h : DataW.Trod enc Try.prog w 0 sp held 47 v d ps) :
    ∃ (x0 : Int) (s1 : Option Addr) (n1 c1 : Nat) (V1 : Nat → Int × Int × Int × Bool × Int), v = .agg #[.int .i64 x0, .slice s1 n1 c1] ∧ (Lit.int .i64 x0).wf = true ∧ n1 ≤ 9223372036854775807 ∧ RowAlarm w s1 n1 V1 :=
  open_Board' Try.underlying47 (by kernel_rfl) (by kernel_rfl) rfl rfl (by kernel_rfl) hv h
end Go.Proofs.Ytlbbdifmjdpfiaa
