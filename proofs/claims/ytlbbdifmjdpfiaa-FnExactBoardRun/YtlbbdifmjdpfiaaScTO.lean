/-
What is proved: a scan that is handed in, opened.
-/
import Derived.Test.YtlbbdifmjdpfiaaScT
import Derived.Test.YtlbbdifmjdpfiaaOpenBN
import Derived.Test.YtlbbdifmjdpfiaaOpenI
import Derived.Test.YtlbbdifmjdpfiaaShfE
import Derived.Deep.SlicePairs
import Derived.Deep.Slices
namespace Go.Proofs.Ytlbbdifmjdpfiaa
set_option maxRecDepth 40000
open Go.ChangeShapes Go.WideShapes Go.ChangeAt Go.RowKit
set_option linter.unusedVariables false
set_option linter.unusedSimpArgs false

theorem cell_wideScan {w : World} {b0 : Nat} {t e : TypeId} {v : Value} (ht : Try.prog.underlying t = some (.slice e)) (hv : Cell.okWide Try.prog w .any b0 t v) : Value.okWide Try.prog w .any b0 t v := by
  simp only [Value.okWide, ht]
  exact hv
theorem cells_sliceScan {w : World} {b0 : Nat} {t e : TypeId} {v : Value} (ht : Try.prog.underlying t = some (.slice e)) (hv : Cell.okWide Try.prog w .any b0 t v) : v.cells.toList = [v] := by
  simp only [Cell.okWide, ht] at hv
  cases v <;> simp_all [Cell.ok, Value.cells]
theorem open_Scan' {H : Type} {enc : TypeId × Value → H} {w : World} {b0 : Nat} {f0 f1 f2 f3 : Field} {v : Value} {d : DataW H} {ps : List MemPlace} {sp : Nat → Bool} {held : Bool} (hs : Try.prog.underlying 62 = some (.struct #[f0, f1, f2, f3])) (hts : Try.prog.cellTypes Try.prog.depth 62 = some [2, 36, 33, 60]) (hC : Try.prog.cellsOf 62 = 4)
    (y1 : f1.type = 36) (o1 : f1.offset = 1) (k1 : Try.prog.cellsOf 36 = 1) (y2 : f2.type = 33) (o2 : f2.offset = 2) (k2 : Try.prog.cellsOf 33 = 1) (y3 : f3.type = 60) (o3 : f3.offset = 3) (k3 : Try.prog.cellsOf 60 = 1)
    (hv : Value.okWide Try.prog w .any b0 62 v) (h : DataW.Trod enc Try.prog w 0 sp held 62 v d ps) :
    ∃ (x0 : Int) (s1 : Option Addr) (n1 c1 : Nat) (V1 : Nat → Bool) (s2 : Option Addr) (n2 c2 : Nat) (V2 : Nat → Int) (s3 : Option Addr) (n3 c3 : Nat) (V3 : Nat → Int × Int), v = .agg #[.int .i64 x0, .slice s1 n1 c1, .slice s2 n2 c2, .slice s3 n3 c3] ∧ (Lit.int .i64 x0).wf = true ∧ n1 ≤ 9223372036854775807 ∧ RowB w s1 n1 V1 ∧ n2 ≤ 9223372036854775807 ∧ RowI w s2 n2 V2 ∧ n3 ≤ 9223372036854775807 ∧ RowShelf w s3 n3 V3 := by
  obtain ⟨vs, rfl, hc⟩ := open_cells hs (ts := [2, 36, 33, 60]) hts hC hv
  obtain ⟨v0, r0, rfl, q0, ck0⟩ := cellsOk_cons hc
  obtain ⟨v1, r1, rfl, q1, ck1⟩ := cellsOk_cons ck0
  obtain ⟨v2, r2, rfl, q2, ck2⟩ := cellsOk_cons ck1
  obtain ⟨v3, r3, rfl, q3, ck3⟩ := cellsOk_cons ck2
  obtain rfl := cellsOk_nil ck3
  obtain ⟨x0, rfl, w0⟩ := cell_int Try.underlying2 q0
  obtain ⟨fuel, hf⟩ := h
  have hf' : DataW.trod enc Try.prog w 0 sp held fuel 62 [.int .i64 x0, v1, v2, v3] = some (d, ps) := hf
  obtain ⟨xs, k', hk, hxy, _, hxl, hfld⟩ := DataW.trod_struct hs hf'
  match xs, hxl with
  | [y0_, y1_, y2_, y3_], _ =>
    have g1 := hfld 1 f1 rfl
    simp [o1, y1, k1] at g1
    obtain ⟨s1, n1, c1, V1, e1, m1, R1⟩ := open_bools Try.underlying36 Try.underlying4 (by kernel_rfl) (cell_wideScan Try.underlying36 q1) ⟨_, show DataW.trod enc Try.prog w 0 _ _ _ 36 v1.cells.toList = some _ by rw [cells_sliceScan Try.underlying36 q1]; exact g1⟩
    have g2 := hfld 2 f2 rfl
    simp [o2, y2, k2] at g2
    obtain ⟨s2, n2, c2, V2, e2, m2, R2, _⟩ := open_i64s Try.underlying33 Try.underlying2 (by kernel_rfl) (cell_wideScan Try.underlying33 q2) ⟨_, show DataW.trod enc Try.prog w 0 _ _ _ 33 v2.cells.toList = some _ by rw [cells_sliceScan Try.underlying33 q2]; exact g2⟩
    have g3 := hfld 3 f3 rfl
    simp [o3, y3, k3] at g3
    obtain ⟨s3, n3, c3, V3, e3, m3, R3⟩ := open_ShelfS Try.underlying60 Try.underlying121 (by kernel_rfl) rfl rfl (by kernel_rfl) (by kernel_rfl) (by kernel_rfl) (by kernel_rfl) (cell_wideScan Try.underlying60 q3) ⟨_, show DataW.trod enc Try.prog w 0 _ _ _ 60 v3.cells.toList = some _ by rw [cells_sliceScan Try.underlying60 q3]; exact g3⟩
    subst e1
    subst e2
    subst e3
    exact ⟨x0, s1, n1, c1, V1, s2, n2, c2, V2, s3, n3, c3, V3, rfl, w0, m1, R1, m2, R2, m3, R3⟩
theorem open_Scan {H : Type} {enc : TypeId × Value → H} {w : World} {b0 : Nat} {v : Value} {d : DataW H} {ps : List MemPlace} {sp : Nat → Bool} {held : Bool} (hv : Value.okWide Try.prog w .any b0 62 v) (h : DataW.Trod enc Try.prog w 0 sp held 62 v d ps) :
    ∃ (x0 : Int) (s1 : Option Addr) (n1 c1 : Nat) (V1 : Nat → Bool) (s2 : Option Addr) (n2 c2 : Nat) (V2 : Nat → Int) (s3 : Option Addr) (n3 c3 : Nat) (V3 : Nat → Int × Int), v = .agg #[.int .i64 x0, .slice s1 n1 c1, .slice s2 n2 c2, .slice s3 n3 c3] ∧ (Lit.int .i64 x0).wf = true ∧ n1 ≤ 9223372036854775807 ∧ RowB w s1 n1 V1 ∧ n2 ≤ 9223372036854775807 ∧ RowI w s2 n2 V2 ∧ n3 ≤ 9223372036854775807 ∧ RowShelf w s3 n3 V3 :=
  open_Scan' Try.underlying62 (by kernel_rfl) (by kernel_rfl) rfl rfl (by kernel_rfl) rfl rfl (by kernel_rfl) rfl rfl (by kernel_rfl) hv h
end Go.Proofs.Ytlbbdifmjdpfiaa
