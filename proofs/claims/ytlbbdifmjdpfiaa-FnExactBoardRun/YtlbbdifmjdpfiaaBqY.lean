/-
What is proved: a board that is handed in, opened.
-/
import Derived.Test.YtlbbdifmjdpfiaaBdT
import Derived.Test.YtlbbdifmjdpfiaaAlE
import Derived.Deep.SlicePairs
import Derived.Deep.Slices
import Derived.Test.YtlbbdifmjdpfiaaAddrL
import Derived.Test.YtlbbdifmjdpfiaaBoN
import Derived.Test.YtlbbdifmjdpfiaaRowI
import Derived.Test.YtlbbdifmjdpfiaaScT
import Derived.Test.YtlbbdifmjdpfiaaShfE
import Derived.Test.YtlbbdifmjdpfiaaScs
namespace Go.Proofs.Ytlbbdifmjdpfiaa
set_option maxRecDepth 40000
open Go.ChangeShapes Go.WideShapes Go.ChangeAt Go.RowKit
set_option linter.unusedVariables false
set_option linter.unusedSimpArgs false

theorem cell_wideBoard {w : World} {b0 : Nat} {t e : TypeId} {v : Value} (ht : Try.prog.underlying t = some (.slice e)) (hv : Cell.okWide Try.prog w .any b0 t v) : Value.okWide Try.prog w .any b0 t v := by
  simp only [Value.okWide, ht]
  exact hv
theorem cells_sliceBoard {w : World} {b0 : Nat} {t e : TypeId} {v : Value} (ht : Try.prog.underlying t = some (.slice e)) (hv : Cell.okWide Try.prog w .any b0 t v) : v.cells.toList = [v] := by
  simp only [Cell.okWide, ht] at hv
  cases v <;> simp_all [Cell.ok, Value.cells]
theorem open_Board' {H : Type} {enc : TypeId × Value → H} {w : World} {b0 : Nat} {f0 f1 : Field} {v : Value} {d : DataW H} {ps : List MemPlace} {sp : Nat → Bool} {held : Bool} (hs : Try.prog.underlying 47 = some (.struct #[f0, f1])) (hts : Try.prog.cellTypes Try.prog.depth 47 = some [2, 45]) (hC : Try.prog.cellsOf 47 = 2)
    (y1 : f1.type = 45) (o1 : f1.offset = 1) (k1 : Try.prog.cellsOf 45 = 1)
    (hv : Value.okWide Try.prog w .any b0 47 v) (h : DataW.Trod enc Try.prog w 0 sp held 47 v d ps) :
    ∃ (x0 : Int) (s1 : Option Addr) (n1 c1 : Nat) (V1 : Nat → Int × Int × Int × Bool × Int), v = .agg #[.int .i64 x0, .slice s1 n1 c1] ∧ (Lit.int .i64 x0).wf = true ∧ n1 ≤ 9223372036854775807 ∧ RowAlarm w s1 n1 V1 := by
  obtain ⟨vs, rfl, hc⟩ := open_cells hs (ts := [2, 45]) hts hC hv
  obtain ⟨v0, r0, rfl, q0, ck0⟩ := cellsOk_cons hc
  obtain ⟨v1, r1, rfl, q1, ck1⟩ := cellsOk_cons ck0
  obtain rfl := cellsOk_nil ck1
  obtain ⟨x0, rfl, w0⟩ := cell_int Try.underlying2 q0
  obtain ⟨fuel, hf⟩ := h
  have hf' : DataW.trod enc Try.prog w 0 sp held fuel 47 [.int .i64 x0, v1] = some (d, ps) := hf
  obtain ⟨xs, k', hk, hxy, _, hxl, hfld⟩ := DataW.trod_struct hs hf'
  match xs, hxl with
  | [y0_, y1_], _ =>
    have g1 := hfld 1 f1 rfl
    simp [o1, y1, k1] at g1
    obtain ⟨s1, n1, c1, V1, e1, m1, R1⟩ := open_AlarmS Try.underlying45 Try.underlying118 (by kernel_rfl) rfl rfl rfl rfl rfl (by kernel_rfl) (by kernel_rfl) (by kernel_rfl) (by kernel_rfl) (by kernel_rfl) (by kernel_rfl) (by kernel_rfl) (by kernel_rfl) (by kernel_rfl) (by kernel_rfl) (cell_wideBoard Try.underlying45 q1) ⟨_, show DataW.trod enc Try.prog w 0 _ _ _ 45 v1.cells.toList = some _ by rw [cells_sliceBoard Try.underlying45 q1]; exact g1⟩
    subst e1
    exact ⟨x0, s1, n1, c1, V1, rfl, w0, m1, R1⟩
theorem open_Board {H : Type} {enc : TypeId × Value → H} {w : World} {b0 : Nat} {v : Value} {d : DataW H} {ps : List MemPlace} {sp : Nat → Bool} {held : Bool} (hv : Value.okWide Try.prog w .any b0 47 v) (h : DataW.Trod enc Try.prog w 0 sp held 47 v d ps) :
    ∃ (x0 : Int) (s1 : Option Addr) (n1 c1 : Nat) (V1 : Nat → Int × Int × Int × Bool × Int), v = .agg #[.int .i64 x0, .slice s1 n1 c1] ∧ (Lit.int .i64 x0).wf = true ∧ n1 ≤ 9223372036854775807 ∧ RowAlarm w s1 n1 V1 :=
  open_Board' Try.underlying47 (by kernel_rfl) (by kernel_rfl) rfl rfl (by kernel_rfl) hv h

open Go.ChangeShapes Go.WideShapes Go.ChangeAt Go.RowKit

/-- A list of bools opened. -/
theorem open_bools {H : Type} {enc : TypeId × Value → H} {w : World} {b0 : Nat} {t e : TypeId} {v : Value} {d : DataW H} {ps : List MemPlace} {sp : Nat → Bool} {held : Bool} (ht : Try.prog.underlying t = some (.slice e)) (he : Try.prog.underlying e = some .bool)
    (ce : Try.prog.cellsOf e = 1) (hv : Value.okWide Try.prog w .any b0 t v) (h : DataW.Trod enc Try.prog w 0 sp held t v d ps) :
    ∃ s n c, ∃ V : Nat → Bool, v = .slice s n c ∧ n ≤ 9223372036854775807 ∧ RowB w s n V := by
  have hsl : ∃ s n c, v = .slice s n c := by
    simp only [Value.okWide, ht, Cell.okWide] at hv
    cases v <;> simp_all [Cell.ok]
  obtain ⟨s, n, c, rfl⟩ := hsl
  obtain ⟨fuel, hf⟩ := h
  have hf' : DataW.trod enc Try.prog w 0 sp held fuel t [.slice s n c] = some (d, ps) := hf
  rcases Go.Deep.open_slice1 ht ce hf' with ⟨e1, _⟩ | ⟨a, len, cap, m, q, V, D, Pl, e1, _, hl, hm, hmm, _, hx⟩
  · simp only [List.cons.injEq, and_true, Value.slice.injEq] at e1
    obtain ⟨rfl, rfl, rfl⟩ := e1
    exact ⟨none, 0, 0, fun _ => false, rfl, by omega, fun j hj => by omega⟩
  · simp only [List.cons.injEq, and_true, Value.slice.injEq] at e1
    obtain ⟨rfl, rfl, rfl⟩ := e1
    have hsp := slice_spot ht hv
    obtain ⟨b, o, spot⟩ := a
    simp only at hsp
    subst hsp
    have hle : n ≤ m := by rw [hmm]; split <;> omega
    have each : ∀ i, i < n → ∃ z : Bool, w.cell? ⟨b, o + i, none⟩ = some (.bool z) := by
      intro i hi
      obtain ⟨h0, t0⟩ := hx i (by omega)
      rw [addr_add] at h0
      obtain ⟨z0, q0, _⟩ := DataW.trod_bool he t0
      simp only [List.cons.injEq, and_true] at q0
      exact ⟨z0, by rw [h0, q0]⟩
    obtain ⟨f, hfn⟩ := Go.Deep.choose_lt each
    refine ⟨some ⟨b, o, none⟩, n, c, f, rfl, ?_, fun j hj => ?_⟩
    · have : maxLen = 9223372036854775807 := by decide
      omega
    · have h0 := hfn j hj
      exact ⟨b, o, rfl, cell_lt (p := ⟨b, o + j, none⟩) h0, h0⟩

open Go.ChangeShapes Go.WideShapes Go.ChangeAt Go.RowKit

theorem addr_add1 (b o k : Nat) : (⟨b, o, none⟩ : Addr).add k = ⟨b, o + k, none⟩ := by
  unfold Addr.add
  split
  · rename_i h; subst h; rfl
  · rfl
theorem slice_spot1 {w : World} {b0 : Nat} {t e : TypeId} {a : Addr} {n c : Nat} (ht : Try.prog.underlying t = some (.slice e)) (hv : Value.okWide Try.prog w .any b0 t (.slice (some a) n c)) : a.spot = none := by
  simp only [Value.okWide, ht, Cell.okWide, Cell.ok] at hv
  exact hv.2.2.2.1
theorem cell_lt1 {w : World} {p : Addr} {v : Value} (h : w.cell? p = some v) : p.block < w.heap.size := by
  rcases Nat.lt_or_ge p.block w.heap.size with z | z
  · exact z
  · exfalso
    simp [World.cell?, Array.getElem?_eq_none z] at h
/-- THE LIST OPENED, of any kind of integers. -/
theorem open_kind {H : Type} {enc : TypeId × Value → H} {w : World} {b0 : Nat} {t e : TypeId} {k : IntKind} {v : Value} {d : DataW H} {ps : List MemPlace} {sp : Nat → Bool} {held : Bool} (ht : Try.prog.underlying t = some (.slice e)) (he : Try.prog.underlying e = some (.int k))
    (ce : Try.prog.cellsOf e = 1) (hv : Value.okWide Try.prog w .any b0 t v) (h : DataW.Trod enc Try.prog w 0 sp held t v d ps) :
    ∃ s n c, ∃ V : Nat → Int, v = .slice s n c ∧ n ≤ 9223372036854775807 ∧ ∀ j, j < n → ∃ b o, s = some ⟨b, o, none⟩ ∧ b < w.heap.size ∧ w.cell? ⟨b, o + j, none⟩ = some (.int k (V j)) ∧ (Lit.int k (V j)).wf = true := by
  have hsl : ∃ s n c, v = .slice s n c := by
    simp only [Value.okWide, ht, Cell.okWide] at hv
    cases v <;> simp_all [Cell.ok]
  obtain ⟨s, n, c, rfl⟩ := hsl
  obtain ⟨fuel, hf⟩ := h
  have hf' : DataW.trod enc Try.prog w 0 sp held fuel t [.slice s n c] = some (d, ps) := hf
  rcases Go.Deep.open_slice1 ht ce hf' with ⟨e1, _⟩ | ⟨a, len, cap, m, q, V, D, Pl, e1, _, hl, hm, hmm, _, hx⟩
  · simp only [List.cons.injEq, and_true, Value.slice.injEq] at e1
    obtain ⟨rfl, rfl, rfl⟩ := e1
    exact ⟨none, 0, 0, fun _ => 0, rfl, by omega, fun j hj => by omega⟩
  · simp only [List.cons.injEq, and_true, Value.slice.injEq] at e1
    obtain ⟨rfl, rfl, rfl⟩ := e1
    have hsp := slice_spot1 ht hv
    obtain ⟨b, o, spot⟩ := a
    simp only at hsp
    subst hsp
    have hle : n ≤ m := by rw [hmm]; split <;> omega
    have each : ∀ i, i < n → ∃ z : Int, w.cell? ⟨b, o + i, none⟩ = some (.int k z) ∧ (Lit.int k z).wf = true := by
      intro i hi
      obtain ⟨h0, t0⟩ := hx i (by omega)
      rw [addr_add1] at h0
      obtain ⟨z0, q0, _, wz⟩ := DataW.trod_int he t0
      simp only [List.cons.injEq, and_true] at q0
      exact ⟨z0, by rw [h0, q0], wz⟩
    obtain ⟨f, hfn⟩ := Go.Deep.choose_lt each
    refine ⟨some ⟨b, o, none⟩, n, c, f, rfl, ?_, fun j hj => ?_⟩
    · have : maxLen = 9223372036854775807 := by decide
      omega
    · obtain ⟨h0, h1⟩ := hfn j hj
      exact ⟨b, o, rfl, cell_lt1 h0, h0, h1⟩
theorem wf64 {m : Int} (h : (Lit.int .i64 m).wf = true) : -9223372036854775808 ≤ m ∧ m ≤ 9223372036854775807 := by
  simp only [Lit.wf, Bool.and_eq_true, decide_eq_true_eq] at h
  exact h
/-- A list of int64s. -/
theorem open_i64s {H : Type} {enc : TypeId × Value → H} {w : World} {b0 : Nat} {t e : TypeId} {v : Value} {d : DataW H} {ps : List MemPlace} {sp : Nat → Bool} {held : Bool} (ht : Try.prog.underlying t = some (.slice e)) (he : Try.prog.underlying e = some (.int .i64))
    (ce : Try.prog.cellsOf e = 1) (hv : Value.okWide Try.prog w .any b0 t v) (h : DataW.Trod enc Try.prog w 0 sp held t v d ps) :
    ∃ s n c, ∃ V : Nat → Int, v = .slice s n c ∧ n ≤ 9223372036854775807 ∧ RowI w s n V ∧ ∀ j, j < n → -9223372036854775808 ≤ V j ∧ V j ≤ 9223372036854775807 := by
  obtain ⟨s, n, c, V, e1, e2, e3⟩ := open_kind ht he ce hv h
  refine ⟨s, n, c, V, e1, e2, fun j hj => ?_, fun j hj => ?_⟩
  · obtain ⟨b, o, h1, h2, h3, _⟩ := e3 j hj
    exact ⟨b, o, h1, h2, h3⟩
  · obtain ⟨b, o, _, _, _, h4⟩ := e3 j hj
    exact wf64 h4

open Go.ChangeShapes Go.WideShapes Go.ChangeAt Go.RowKit
set_option linter.unusedVariables false
set_option linter.unusedSimpArgs false

theorem cell_wideScan {w : World} {b0 : Nat} {t e : TypeId} {v : Value} (ht : Try.prog.underlying t = some (.slice e)) (hv : Cell.okWide Try.prog w .any b0 t v) : Value.okWide Try.prog w .any b0 t v := by
  simp only [Value.okWide, ht]
  exact hv
theorem cells_sliceScan {w : World} {b0 : Nat} {t e : TypeId} {v : Value} (ht : Try.prog.underlying t = some (.slice e)) (hv : Cell.okWide Try.prog w .any b0 t v) : v.cells.toList = [v] := by
  simp only [Cell.okWide, ht] at hv
  cases v <;> simp_all [Cell.ok, Value.cells]
theorem open_Scan' {H : Type} {enc : TypeId × Value → H} {w : World} {b0 : Nat} {f0 f1 f2 f3 : Field} {v : Value} {d : DataW H} {ps : List MemPlace} {sp : Nat → Bool} {held : Bool} (hs : Try.prog.underlying 62 = some (.struct #[f0, f1, f2, f3])) (hts : Try.prog.cellTypes Try.prog.depth 62 = some [2, 36, 33, 60]) (hC : Try.prog.cellsOf 62 = 4)
    (y1 : f1.type = 36) (o1 : f1.offset = 1) (k1 : Try.prog.cellsOf 36 = 1) (y2 : f2.type = 33) (o2 : f2.offset = 2) (k2 : Try.prog.cellsOf 33 = 1) (y3 : f3.type = 60) (o3 : f3.offset = 3) (k3 : Try.prog.cellsOf 60 = 1)
    (hv : Value.okWide Try.prog w .any b0 62 v) (h : DataW.Trod enc Try.prog w 0 sp held 62 v d ps) :
    ∃ (x0 : Int) (s1 : Option Addr) (n1 c1 : Nat) (V1 : Nat → Bool) (s2 : Option Addr) (n2 c2 : Nat) (V2 : Nat → Int) (s3 : Option Addr) (n3 c3 : Nat) (V3 : Nat → Int × Int), v = .agg #[.int .i64 x0, .slice s1 n1 c1, .slice s2 n2 c2, .slice s3 n3 c3] ∧ (Lit.int .i64 x0).wf = true ∧ n1 ≤ 9223372036854775807 ∧ RowB w s1 n1 V1 ∧ n2 ≤ 9223372036854775807 ∧ RowI w s2 n2 V2 ∧ n3 ≤ 9223372036854775807 ∧ RowShelf w s3 n3 V3 := by
  obtain ⟨vs, rfl, hc⟩ := open_cells hs (ts := [2, 36, 33, 60]) hts hC hv
  obtain ⟨v0, r0, rfl, q0, ck0⟩ := cellsOk_cons hc
  obtain ⟨v1, r1, rfl, q1, ck1⟩ := cellsOk_cons ck0
  obtain ⟨v2, r2, rfl, q2, ck2⟩ := cellsOk_cons ck1
  obtain ⟨v3, r3, rfl, q3, ck3⟩ := cellsOk_cons ck2
  obtain rfl := cellsOk_nil ck3
  obtain ⟨x0, rfl, w0⟩ := cell_int Try.underlying2 q0
  obtain ⟨fuel, hf⟩ := h
  have hf' : DataW.trod enc Try.prog w 0 sp held fuel 62 [.int .i64 x0, v1, v2, v3] = some (d, ps) := hf
  obtain ⟨xs, k', hk, hxy, _, hxl, hfld⟩ := DataW.trod_struct hs hf'
  match xs, hxl with
  | [y0_, y1_, y2_, y3_], _ =>
    have g1 := hfld 1 f1 rfl
    simp [o1, y1, k1] at g1
    obtain ⟨s1, n1, c1, V1, e1, m1, R1⟩ := open_bools Try.underlying36 Try.underlying4 (by kernel_rfl) (cell_wideScan Try.underlying36 q1) ⟨_, show DataW.trod enc Try.prog w 0 _ _ _ 36 v1.cells.toList = some _ by rw [cells_sliceScan Try.underlying36 q1]; exact g1⟩
    have g2 := hfld 2 f2 rfl
    simp [o2, y2, k2] at g2
    obtain ⟨s2, n2, c2, V2, e2, m2, R2, _⟩ := open_i64s Try.underlying33 Try.underlying2 (by kernel_rfl) (cell_wideScan Try.underlying33 q2) ⟨_, show DataW.trod enc Try.prog w 0 _ _ _ 33 v2.cells.toList = some _ by rw [cells_sliceScan Try.underlying33 q2]; exact g2⟩
    have g3 := hfld 3 f3 rfl
    simp [o3, y3, k3] at g3
    obtain ⟨s3, n3, c3, V3, e3, m3, R3⟩ := open_ShelfS Try.underlying60 Try.underlying121 (by kernel_rfl) rfl rfl (by kernel_rfl) (by kernel_rfl) (by kernel_rfl) (by kernel_rfl) (cell_wideScan Try.underlying60 q3) ⟨_, show DataW.trod enc Try.prog w 0 _ _ _ 60 v3.cells.toList = some _ by rw [cells_sliceScan Try.underlying60 q3]; exact g3⟩
    subst e1
    subst e2
    subst e3
    exact ⟨x0, s1, n1, c1, V1, s2, n2, c2, V2, s3, n3, c3, V3, rfl, w0, m1, R1, m2, R2, m3, R3⟩
theorem open_Scan {H : Type} {enc : TypeId × Value → H} {w : World} {b0 : Nat} {v : Value} {d : DataW H} {ps : List MemPlace} {sp : Nat → Bool} {held : Bool} (hv : Value.okWide Try.prog w .any b0 62 v) (h : DataW.Trod enc Try.prog w 0 sp held 62 v d ps) :
    ∃ (x0 : Int) (s1 : Option Addr) (n1 c1 : Nat) (V1 : Nat → Bool) (s2 : Option Addr) (n2 c2 : Nat) (V2 : Nat → Int) (s3 : Option Addr) (n3 c3 : Nat) (V3 : Nat → Int × Int), v = .agg #[.int .i64 x0, .slice s1 n1 c1, .slice s2 n2 c2, .slice s3 n3 c3] ∧ (Lit.int .i64 x0).wf = true ∧ n1 ≤ 9223372036854775807 ∧ RowB w s1 n1 V1 ∧ n2 ≤ 9223372036854775807 ∧ RowI w s2 n2 V2 ∧ n3 ≤ 9223372036854775807 ∧ RowShelf w s3 n3 V3 :=
  open_Scan' Try.underlying62 (by kernel_rfl) (by kernel_rfl) rfl rfl (by kernel_rfl) rfl rfl (by kernel_rfl) rfl rfl (by kernel_rfl) hv h

open Go.ChangeShapes Go.WideShapes Go.ChangeAt Go.RowKit
set_option linter.unusedVariables false
set_option linter.unusedSimpArgs false

theorem row1_bool {H : Type} {enc : TypeId × Value → H} {w : World} {t e : TypeId} {sp : Nat → Bool} {held : Bool} {fuel : Nat} {v : Value} {x : DataW H × List MemPlace} (ht : Try.prog.underlying t = some (.slice e)) (he : Try.prog.underlying e = some .bool) (ce : Try.prog.cellsOf e = 1)
    (hf : DataW.trod enc Try.prog w 0 sp held fuel t [v] = some x) : ∃ s n c, v = .slice s n c ∧ n ≤ 9223372036854775807 ∧ ∃ V, RowB w s n V := by
  obtain ⟨x1, x2⟩ := x
  have hml : maxLen = 9223372036854775807 := by decide
  rcases Go.Deep.open_slice1 ht ce hf with ⟨e1, _⟩ | ⟨a, len, cap, m, q', V, D, Pl, e1, _, hl, hm, hmm, _, hx⟩
  · simp only [List.cons.injEq, and_true] at e1
    exact ⟨none, 0, 0, e1, by omega, fun _ => false, fun j hj => absurd hj (Nat.not_lt_zero _)⟩
  · simp only [List.cons.injEq, and_true] at e1
    have hle : len ≤ m := by rw [hmm]; split <;> omega
    have each : ∀ i, i < len → ∃ z : Bool, w.cell? (a.add i) = some (.bool z) := by
      intro i hi
      obtain ⟨h0, t0⟩ := hx i (by omega)
      obtain ⟨z0, q0, _⟩ := DataW.trod_bool he t0
      simp only [List.cons.injEq, and_true] at q0
      exact ⟨z0, by rw [h0, q0]⟩
    obtain ⟨f, hfn⟩ := Go.Deep.choose_lt each
    refine ⟨some a, len, cap, e1, by omega, f, fun j hj => ?_⟩
    have h0 := hfn j hj
    obtain ⟨b, o, spot⟩ := a
    have hs : spot = none := by
      have := World.cell?_spot (hfn 0 (by omega))
      simpa [Addr.add] using this
    subst hs
    rw [addr_add] at h0
    exact ⟨b, o, rfl, cell_lt (p := ⟨b, o + j, none⟩) h0, h0⟩
theorem row1_int {H : Type} {enc : TypeId × Value → H} {w : World} {t e : TypeId} {sp : Nat → Bool} {held : Bool} {fuel : Nat} {v : Value} {x : DataW H × List MemPlace} (ht : Try.prog.underlying t = some (.slice e)) (he : Try.prog.underlying e = some (.int .i64)) (ce : Try.prog.cellsOf e = 1)
    (hf : DataW.trod enc Try.prog w 0 sp held fuel t [v] = some x) : ∃ s n c, v = .slice s n c ∧ n ≤ 9223372036854775807 ∧ ∃ V, RowI w s n V := by
  obtain ⟨x1, x2⟩ := x
  have hml : maxLen = 9223372036854775807 := by decide
  rcases Go.Deep.open_slice1 ht ce hf with ⟨e1, _⟩ | ⟨a, len, cap, m, q', V, D, Pl, e1, _, hl, hm, hmm, _, hx⟩
  · simp only [List.cons.injEq, and_true] at e1
    exact ⟨none, 0, 0, e1, by omega, fun _ => 0, fun j hj => absurd hj (Nat.not_lt_zero _)⟩
  · simp only [List.cons.injEq, and_true] at e1
    have hle : len ≤ m := by rw [hmm]; split <;> omega
    have each : ∀ i, i < len → ∃ z : Int, w.cell? (a.add i) = some (.int .i64 z) := by
      intro i hi
      obtain ⟨h0, t0⟩ := hx i (by omega)
      obtain ⟨z0, q0, _⟩ := DataW.trod_int he t0
      simp only [List.cons.injEq, and_true] at q0
      exact ⟨z0, by rw [h0, q0]⟩
    obtain ⟨f, hfn⟩ := Go.Deep.choose_lt each
    refine ⟨some a, len, cap, e1, by omega, f, fun j hj => ?_⟩
    have h0 := hfn j hj
    obtain ⟨b, o, spot⟩ := a
    have hs : spot = none := by
      have := World.cell?_spot (hfn 0 (by omega))
      simpa [Addr.add] using this
    subst hs
    rw [addr_add] at h0
    exact ⟨b, o, rfl, cell_lt (p := ⟨b, o + j, none⟩) h0, h0⟩
theorem row1_shelf {H : Type} {enc : TypeId × Value → H} {w : World} {t e : TypeId} {f0 f1 : Field} {sp : Nat → Bool} {held : Bool} {fuel : Nat} {v : Value} {x : DataW H × List MemPlace} (ht : Try.prog.underlying t = some (.slice e)) (he : Try.prog.underlying e = some (.struct #[f0, f1])) (ce : Try.prog.cellsOf e = 2) (o0 : f0.offset = 0) (o1 : f1.offset = 1) (c0 : Try.prog.cellsOf f0.type = 1) (c1 : Try.prog.cellsOf f1.type = 1) (i0 : Try.prog.underlying f0.type = some (.int .i64)) (i1 : Try.prog.underlying f1.type = some (.int .i64))
    (hf : DataW.trod enc Try.prog w 0 sp held fuel t [v] = some x) : ∃ s n c, v = .slice s n c ∧ n ≤ 9223372036854775807 ∧ ∃ V, RowShelf w s n V := by
  obtain ⟨x1, x2⟩ := x
  have hml : maxLen = 9223372036854775807 := by decide
  rcases Go.Deep.open_slice ht hf with ⟨e1, _⟩ | ⟨a, len, cap, m, k, D, Pl, e1, _, hl, hm, hmm, _, hx⟩
  · simp only [List.cons.injEq, and_true] at e1
    exact ⟨none, 0, 0, e1, by omega, fun _ => (0, 0), fun j hj => absurd hj (Nat.not_lt_zero _)⟩
  · simp only [List.cons.injEq, and_true] at e1
    have hle : len ≤ m := by rw [hmm]; split <;> omega
    refine ⟨some a, len, cap, e1, by omega, ?_⟩
    by_cases hz : len = 0
    · subst hz; exact ⟨fun _ => (0, 0), fun j hj => by omega⟩
    obtain ⟨b, o, spot⟩ := a
    obtain ⟨cs0, h10, _⟩ := hx 0 (by omega)
    rw [ce] at h10
    obtain ⟨_, hl0, hc0⟩ := World.cells?_some h10
    have hspot : spot = none := by
      match cs0, hl0 with
      | [u, u'], _ =>
        have := hc0 0 (by omega)
        simp [Addr.add] at this
        exact World.cell?_spot this
    subst hspot
    have each : ∀ i, i < len → ∃ z : Int × Int, w.cell? ⟨b, o + i * 2, none⟩ = some (.int .i64 (z.1)) ∧ w.cell? ⟨b, o + (i * 2 + 1), none⟩ = some (.int .i64 (z.2)) := by
      intro i hi
      obtain ⟨cs', h1, h2⟩ := hx i (by omega)
      rw [ce] at h1
      obtain ⟨_, hlen, hcell⟩ := World.cells?_some h1
      obtain ⟨xs, k', hk, hxy, _, hxl, hf⟩ := DataW.trod_struct he h2
      match xs, hxl, cs', hlen with
      | [y0, y1], _, [v0, v1], _ =>
        have g0 := hf 0 f0 rfl
        have g1 := hf 1 f1 rfl
        simp [o0, c0, o1, c1] at g0 g1
        have e0 := hcell 0 (by omega)
        have e1 := hcell 1 (by omega)
        rw [Go.Deep.add_add, addr_add] at e0 e1
        obtain ⟨z0, q0, _, _⟩ := DataW.trod_int i0 g0
        obtain ⟨z1, q1, _, _⟩ := DataW.trod_int i1 g1
        simp only [List.cons.injEq, and_true] at q0 q1
        subst q0 q1
        exact ⟨(z0, z1), by simpa using e0, by simpa using e1⟩
    obtain ⟨f, hfn⟩ := Go.Deep.choose_lt each
    refine ⟨f, fun j hj => ?_⟩
    obtain ⟨h0, h1⟩ := hfn j hj
    exact ⟨b, o, rfl, cell_lt h0, by simpa [Nat.add_assoc] using h0, by simpa [Nat.add_assoc] using h1⟩
theorem Scs_addr (b o k : Nat) : (⟨b, o, none⟩ : Addr).add k = ⟨b, o + k, none⟩ := by
  unfold Addr.add
  split
  · rename_i h; subst h; rfl
  · rfl
theorem Scs_cell_lt {w : World} {p : Addr} {v : Value} (h : w.cell? p = some v) : p.block < w.heap.size := by
  rcases Nat.lt_or_ge p.block w.heap.size with z | z
  · exact z
  · exfalso
    simp [World.cell?, Array.getElem?_eq_none z] at h
theorem Scs_spot {w : World} {b0 : Nat} {t e : TypeId} {a : Addr} {n c : Nat} (ht : Try.prog.underlying t = some (.slice e)) (hv : Value.okWide Try.prog w .any b0 t (.slice (some a) n c)) : a.spot = none := by
  simp only [Value.okWide, ht, Cell.okWide, Cell.ok] at hv
  exact hv.2.2.2.1
theorem open_ScanS' {H : Type} {enc : TypeId × Value → H} {w : World} {b0 : Nat} {t e : TypeId} {f0 f1 f2 f3 : Field} {l1 l2 l3 : TypeId} {h0 h1 : Field} {v : Value} {d : DataW H} {ps : List MemPlace} {sp : Nat → Bool} {held : Bool} (ht : Try.prog.underlying t = some (.slice e)) (he : Try.prog.underlying e = some (.struct #[f0, f1, f2, f3]))
    (ce : Try.prog.cellsOf e = 4) (o0 : f0.offset = 0) (c0 : Try.prog.cellsOf f0.type = 1) (o1 : f1.offset = 1) (c1 : Try.prog.cellsOf f1.type = 1) (o2 : f2.offset = 2) (c2 : Try.prog.cellsOf f2.type = 1) (o3 : f3.offset = 3) (c3 : Try.prog.cellsOf f3.type = 1) (i0 : Try.prog.underlying f0.type = some (.int .i64)) (i1 : Try.prog.underlying f1.type = some (.slice l1)) (j1 : Try.prog.underlying l1 = some .bool) (q1 : Try.prog.cellsOf l1 = 1) (i2 : Try.prog.underlying f2.type = some (.slice l2)) (j2 : Try.prog.underlying l2 = some (.int .i64)) (q2 : Try.prog.cellsOf l2 = 1) (i3 : Try.prog.underlying f3.type = some (.slice l3)) (j3 : Try.prog.underlying l3 = some (.struct #[h0, h1])) (q3 : Try.prog.cellsOf l3 = 2) (p0 : h0.offset = 0) (p1 : h1.offset = 1) (r0 : Try.prog.cellsOf h0.type = 1) (r1 : Try.prog.cellsOf h1.type = 1) (m0 : Try.prog.underlying h0.type = some (.int .i64)) (m1 : Try.prog.underlying h1.type = some (.int .i64))
    (hv : Value.okWide Try.prog w .any b0 t v) (h : DataW.Trod enc Try.prog w 0 sp held t v d ps) : ∃ s n c Z, v = .slice s n c ∧ n ≤ 9223372036854775807 ∧ (∀ j, j < n → scsW (Z j)) ∧ RowScs w s n Z := by
  have hsl : ∃ s n c, v = .slice s n c := by
    simp only [Value.okWide, ht, Cell.okWide] at hv
    cases v <;> simp_all [Cell.ok]
  obtain ⟨s, n, c, rfl⟩ := hsl
  obtain ⟨fuel, hf⟩ := h
  have hf' : DataW.trod enc Try.prog w 0 sp held fuel t [.slice s n c] = some (d, ps) := hf
  rcases Go.Deep.open_slice ht hf' with ⟨e1, _⟩ | ⟨a, len, cap, m, k, D, Pl, e1, _, hl, hm, hmm, _, hx⟩
  · simp only [List.cons.injEq, and_true, Value.slice.injEq] at e1
    obtain ⟨rfl, rfl, rfl⟩ := e1
    exact ⟨none, 0, 0, fun _ => (0, 0, fun _ => false, 0, fun _ => 0, 0, fun _ => (0, 0)), rfl, by omega, fun j hj => by omega, fun j hj => by omega⟩
  · simp only [List.cons.injEq, and_true, Value.slice.injEq] at e1
    obtain ⟨rfl, rfl, rfl⟩ := e1
    have hsp := Scs_spot ht hv
    obtain ⟨b, o, spot⟩ := a
    simp only at hsp
    subst hsp
    have hle : n ≤ m := by rw [hmm]; split <;> omega
    have mx : maxLen = 9223372036854775807 := by decide
    have each : ∀ i, i < n → ∃ z : Int × (Option Addr × Nat × Nat × (Nat → Bool)) × (Option Addr × Nat × Nat × (Nat → Int)) × (Option Addr × Nat × Nat × (Nat → Int × Int)), w.cell? ⟨b, o + i * 4, none⟩ = some (.int .i64 (z.1)) ∧ w.cell? ⟨b, o + i * 4 + 1, none⟩ = some (.slice z.2.1.1 z.2.1.2.1 z.2.1.2.2.1) ∧ w.cell? ⟨b, o + i * 4 + 2, none⟩ = some (.slice z.2.2.1.1 z.2.2.1.2.1 z.2.2.1.2.2.1) ∧ w.cell? ⟨b, o + i * 4 + 3, none⟩ = some (.slice z.2.2.2.1 z.2.2.2.2.1 z.2.2.2.2.2.1) ∧ RowB w z.2.1.1 z.2.1.2.1 z.2.1.2.2.2 ∧ RowI w z.2.2.1.1 z.2.2.1.2.1 z.2.2.1.2.2.2 ∧ RowShelf w z.2.2.2.1 z.2.2.2.2.1 z.2.2.2.2.2.2 ∧ z.2.1.2.1 ≤ 9223372036854775807 ∧ z.2.2.1.2.1 ≤ 9223372036854775807 ∧ z.2.2.2.2.1 ≤ 9223372036854775807 := by
      intro i hi
      obtain ⟨cs', h1, h2⟩ := hx i (by omega)
      rw [ce] at h1
      obtain ⟨_, hlen, hcell⟩ := World.cells?_some h1
      obtain ⟨xs, k', hk, hxy, _, hxl, hf⟩ := DataW.trod_struct he h2
      match xs, hxl, cs', hlen with
      | [y0, y1, y2, y3], _, [v0, v1, v2, v3], _ =>
        have g0 := hf 0 f0 rfl
        have g1 := hf 1 f1 rfl
        have g2 := hf 2 f2 rfl
        have g3 := hf 3 f3 rfl
        simp [o0, c0, o1, c1, o2, c2, o3, c3] at g0 g1 g2 g3
        have e0 := hcell 0 (by omega)
        have e1 := hcell 1 (by omega)
        have e2 := hcell 2 (by omega)
        have e3 := hcell 3 (by omega)
        rw [Go.Deep.add_add, Scs_addr] at e0 e1 e2 e3
        obtain ⟨z0, a0, _, _⟩ := DataW.trod_int i0 g0
        simp only [List.cons.injEq, and_true] at a0
        obtain ⟨s1, n1, k1, a1, lm1, V1, R1⟩ := row1_bool i1 j1 q1 g1
        obtain ⟨s2, n2, k2, a2, lm2, V2, R2⟩ := row1_int i2 j2 q2 g2
        obtain ⟨s3, n3, k3, a3, lm3, V3, R3⟩ := row1_shelf i3 j3 q3 p0 p1 r0 r1 m0 m1 g3
        exact ⟨(z0, (s1, n1, k1, V1), (s2, n2, k2, V2), (s3, n3, k3, V3)), (by rw [← a0]; simpa [Nat.add_assoc] using e0), (by rw [← a1]; simpa [Nat.add_assoc] using e1), (by rw [← a2]; simpa [Nat.add_assoc] using e2), (by rw [← a3]; simpa [Nat.add_assoc] using e3), R1, R2, R3, lm1, lm2, lm3⟩
    obtain ⟨f, hfn⟩ := Go.Deep.choose_lt each
    refine ⟨some ⟨b, o, none⟩, n, c, fun j => ((f j).1, (f j).2.1.2.1, (f j).2.1.2.2.2, (f j).2.2.1.2.1, (f j).2.2.1.2.2.2, (f j).2.2.2.2.1, (f j).2.2.2.2.2.2), rfl, by omega, fun j hj => ?_, fun j hj => ?_⟩
    · obtain ⟨_, _, _, _, _, _, _, h1, h2, h3⟩ := hfn j hj
      unfold scsW
      dsimp only
      omega
    · obtain ⟨h0, h1, h2, h3, h4, h5, h6, _⟩ := hfn j hj
      exact ⟨b, o, _, _, _, _, _, _, rfl, Scs_cell_lt h0, h0, h1, h2, h3, h4, h5, h6⟩
theorem open_ScanS {H : Type} {enc : TypeId × Value → H} {w : World} {b0 : Nat} {v : Value} {d : DataW H} {ps : List MemPlace} {sp : Nat → Bool} {held : Bool} (hv : Value.okWide Try.prog w .any b0 48 v) (h : DataW.Trod enc Try.prog w 0 sp held 48 v d ps) : ∃ s n c Z, v = .slice s n c ∧ n ≤ 9223372036854775807 ∧ (∀ j, j < n → scsW (Z j)) ∧ RowScs w s n Z :=
  open_ScanS' Try.underlying48 Try.underlying62 (by kernel_rfl) rfl (by kernel_rfl) rfl (by kernel_rfl) rfl (by kernel_rfl) rfl (by kernel_rfl) Try.underlying2 Try.underlying36 Try.underlying4 (by kernel_rfl) Try.underlying33 Try.underlying2 (by kernel_rfl) Try.underlying60 Try.underlying121 (by kernel_rfl) rfl rfl (by kernel_rfl) (by kernel_rfl) Try.underlying2 Try.underlying2 hv h

end Go.Proofs.Ytlbbdifmjdpfiaa
