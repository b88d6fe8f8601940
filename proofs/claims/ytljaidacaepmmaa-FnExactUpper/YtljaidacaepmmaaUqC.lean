/-
What is proved: a list of gates that is handed in, opened.
-/
import Derived.Test.YtljaidacaepmmaaGaR
import Derived.Deep.Slices
import Derived.Test.YtljaidacaepmmaaTrT
import Derived.Deep.SlicePairs
import Derived.Test.YtljaidacaepmmaaRowI
import Derived.Test.YtljaidacaepmmaaTn
import Derived.Test.YtljaidacaepmmaaI64
namespace Go.Proofs.Ytljaidacaepmmaa
set_option maxRecDepth 40000
open Go.ChangeShapes Go.WideShapes Go.ChangeAt Go.RowKit
set_option linter.unusedVariables false
set_option linter.unusedSimpArgs false

theorem Ga_row1 {H : Type} {enc : TypeId × Value → H} {w : World} {t e : TypeId} {sp : Nat → Bool} {held : Bool} {fuel : Nat} {v : Value} {x : DataW H × List MemPlace} (ht : Try.prog.underlying t = some (.slice e)) (he : Try.prog.underlying e = some (.int .i64)) (ce : Try.prog.cellsOf e = 1)
    (hf : DataW.trod enc Try.prog w 0 sp held fuel t [v] = some x) : ∃ s n c, v = .slice s n c ∧ n ≤ 9223372036854775807 ∧ ∃ V, RowI w s n V := by
  rcases Go.Deep.open_slice ht hf with ⟨e1, _⟩ | ⟨a, len, cap, m, k, D, Pl, e1, _, hl, hm, hmm, _, hx⟩
  · simp only [List.cons.injEq, and_true] at e1
    exact ⟨none, 0, 0, e1, by omega, fun _ => 0, fun j hj => by omega⟩
  · simp only [List.cons.injEq, and_true] at e1
    have hle : len ≤ m := by rw [hmm]; split <;> omega
    have mx : maxLen = 9223372036854775807 := by decide
    refine ⟨some a, len, cap, e1, by omega, ?_⟩
    by_cases hz : len = 0
    · subst hz; exact ⟨fun _ => 0, fun j hj => by omega⟩
    · obtain ⟨b, o, spot⟩ := a
      have addr : ∀ k, (⟨b, o, none⟩ : Addr).add k = ⟨b, o + k, none⟩ := fun k => by
        unfold Addr.add
        split
        · rename_i h; subst h; rfl
        · rfl
      have lt : ∀ {p : Addr} {u : Value}, w.cell? p = some u → p.block < w.heap.size := fun {p u} h => by
        rcases Nat.lt_or_ge p.block w.heap.size with z | z
        · exact z
        · exfalso
          simp [World.cell?, Array.getElem?_eq_none z] at h
      obtain ⟨cs0, h10, _⟩ := hx 0 (by omega)
      rw [ce] at h10
      obtain ⟨_, hl0, hc0⟩ := World.cells?_some h10
      have hspot : spot = none := by
        match cs0, hl0 with
        | [u], _ =>
          have := hc0 0 (by omega)
          simp [Addr.add] at this
          exact World.cell?_spot this
      subst hspot
      have each : ∀ i, i < len → ∃ z : Int, w.cell? ⟨b, o + i, none⟩ = some (.int .i64 z) := by
        intro i hi
        obtain ⟨cs', h1, h2⟩ := hx i (by omega)
        rw [ce] at h1
        obtain ⟨_, hlen, hcell⟩ := World.cells?_some h1
        match cs', hlen with
        | [u], _ =>
          have e0 := hcell 0 (by omega)
          rw [Go.Deep.add_add, addr] at e0
          obtain ⟨z0, q0, _, _⟩ := DataW.trod_int he h2
          simp only [List.cons.injEq, and_true] at q0
          exact ⟨z0, by rw [← q0]; simpa [ce] using e0⟩
      obtain ⟨f, hfn⟩ := Go.Deep.choose_lt each
      exact ⟨f, fun j hj => ⟨b, o, rfl, lt (hfn j hj), hfn j hj⟩⟩
theorem Ga_addr (b o k : Nat) : (⟨b, o, none⟩ : Addr).add k = ⟨b, o + k, none⟩ := by
  unfold Addr.add
  split
  · rename_i h; subst h; rfl
  · rfl
theorem Ga_cell_lt {w : World} {p : Addr} {v : Value} (h : w.cell? p = some v) : p.block < w.heap.size := by
  rcases Nat.lt_or_ge p.block w.heap.size with z | z
  · exact z
  · exfalso
    simp [World.cell?, Array.getElem?_eq_none z] at h
theorem Ga_spot {w : World} {b0 : Nat} {t e : TypeId} {a : Addr} {n c : Nat} (ht : Try.prog.underlying t = some (.slice e)) (hv : Value.okWide Try.prog w .any b0 t (.slice (some a) n c)) : a.spot = none := by
  simp only [Value.okWide, ht, Cell.okWide, Cell.ok] at hv
  exact hv.2.2.2.1
theorem open_GateS {H : Type} {enc : TypeId × Value → H} {w : World} {b0 : Nat} {t e : TypeId} {f0 f1 : Field} {l1 : TypeId}  {v : Value} {d : DataW H} {ps : List MemPlace} {sp : Nat → Bool} {held : Bool} (ht : Try.prog.underlying t = some (.slice e)) (he : Try.prog.underlying e = some (.struct #[f0, f1]))
    (ce : Try.prog.cellsOf e = 2) (o0 : f0.offset = 0) (c0 : Try.prog.cellsOf f0.type = 1) (o1 : f1.offset = 1) (c1 : Try.prog.cellsOf f1.type = 1) (i0 : Try.prog.underlying f0.type = some (.int .i64)) (i1 : Try.prog.underlying f1.type = some (.slice l1)) (j1 : Try.prog.underlying l1 = some (.int .i64)) (q1 : Try.prog.cellsOf l1 = 1)
    (hv : Value.okWide Try.prog w .any b0 t v) (h : DataW.Trod enc Try.prog w 0 sp held t v d ps) : ∃ s n c X0 S1 K1 C1 V1, v = .slice s n c ∧ n ≤ 9223372036854775807 ∧ (∀ j, j < n → K1 j ≤ 9223372036854775807) ∧ GateR w s n X0 S1 K1 C1 V1 := by
  have hsl : ∃ s n c, v = .slice s n c := by
    simp only [Value.okWide, ht, Cell.okWide] at hv
    cases v <;> simp_all [Cell.ok]
  obtain ⟨s, n, c, rfl⟩ := hsl
  obtain ⟨fuel, hf⟩ := h
  have hf' : DataW.trod enc Try.prog w 0 sp held fuel t [.slice s n c] = some (d, ps) := hf
  rcases Go.Deep.open_slice ht hf' with ⟨e1, _⟩ | ⟨a, len, cap, m, k, D, Pl, e1, _, hl, hm, hmm, _, hx⟩
  · simp only [List.cons.injEq, and_true, Value.slice.injEq] at e1
    obtain ⟨rfl, rfl, rfl⟩ := e1
    exact ⟨none, 0, 0, fun _ => 0, fun _ => none, fun _ => 0, fun _ => 0, fun _ _ => 0, rfl, by omega, fun j hj => by omega, fun j hj => by omega⟩
  · simp only [List.cons.injEq, and_true, Value.slice.injEq] at e1
    obtain ⟨rfl, rfl, rfl⟩ := e1
    have hsp := Ga_spot ht hv
    obtain ⟨b, o, spot⟩ := a
    simp only at hsp
    subst hsp
    have hle : n ≤ m := by rw [hmm]; split <;> omega
    have mx : maxLen = 9223372036854775807 := by decide
    have each : ∀ i, i < n → ∃ z : Int × (Option Addr × Nat × Nat × (Nat → Int)), w.cell? ⟨b, o + i * 2, none⟩ = some (.int .i64 (z.1)) ∧ (w.cell? ⟨b, o + i * 2 + 1, none⟩ = some (.slice z.2.1 z.2.2.1 z.2.2.2.1) ∧ RowI w z.2.1 z.2.2.1 z.2.2.2.2 ∧ z.2.2.1 ≤ 9223372036854775807) := by
      intro i hi
      obtain ⟨cs', h1, h2⟩ := hx i (by omega)
      rw [ce] at h1
      obtain ⟨_, hlen, hcell⟩ := World.cells?_some h1
      obtain ⟨xs, k', hk, hxy, _, hxl, hf⟩ := DataW.trod_struct he h2
      match xs, hxl, cs', hlen with
      | [y0, y1], _, [v0, v1], _ =>
        have g0 := hf 0 f0 rfl
        have g1 := hf 1 f1 rfl
        simp [o0, c0, o1, c1] at g0 g1
        have e0 := hcell 0 (by omega)
        have e1 := hcell 1 (by omega)
        rw [Go.Deep.add_add, Ga_addr] at e0 e1
        obtain ⟨z0, r0, _, _⟩ := DataW.trod_int i0 g0
        simp only [List.cons.injEq, and_true] at r0
        obtain ⟨s1, n1, k1, r1, lm1, V1, R1⟩ := Ga_row1 i1 j1 q1 g1
        exact ⟨(z0, (s1, n1, k1, V1)), (by rw [← r0]; simpa [Nat.add_assoc] using e0), ⟨(by rw [← r1]; simpa [Nat.add_assoc] using e1), R1, lm1⟩⟩
    obtain ⟨f, hfn⟩ := Go.Deep.choose_lt each
    refine ⟨some ⟨b, o, none⟩, n, c, fun j => (f j).1, fun j => (f j).2.1, fun j => (f j).2.2.1, fun j => (f j).2.2.2.1, fun j => (f j).2.2.2.2, rfl, by omega, fun j hj => (hfn j hj).2.2.2, fun j hj => ?_⟩
    have h0 := hfn j hj
    exact ⟨b, o, rfl, Ga_cell_lt (h0.1), h0.1, h0.2.1, h0.2.2.1⟩

open Go.ChangeShapes Go.WideShapes Go.ChangeAt Go.RowKit
set_option linter.unusedVariables false
set_option linter.unusedSimpArgs false

theorem cell_wideTree {w : World} {b0 : Nat} {t e : TypeId} {v : Value} (ht : Try.prog.underlying t = some (.slice e)) (hv : Cell.okWide Try.prog w .any b0 t v) : Value.okWide Try.prog w .any b0 t v := by
  simp only [Value.okWide, ht]
  exact hv
theorem cells_sliceTree {w : World} {b0 : Nat} {t e : TypeId} {v : Value} (ht : Try.prog.underlying t = some (.slice e)) (hv : Cell.okWide Try.prog w .any b0 t v) : v.cells.toList = [v] := by
  simp only [Cell.okWide, ht] at hv
  cases v <;> simp_all [Cell.ok, Value.cells]
theorem open_Tree' {H : Type} {enc : TypeId × Value → H} {w : World} {b0 : Nat} {f0 f1 : Field} {v : Value} {d : DataW H} {ps : List MemPlace} {sp : Nat → Bool} {held : Bool} (hs : Try.prog.underlying 24 = some (.struct #[f0, f1])) (hts : Try.prog.cellTypes Try.prog.depth 24 = some [2, 22]) (hC : Try.prog.cellsOf 24 = 2)
    (y1 : f1.type = 22) (o1 : f1.offset = 1) (k1 : Try.prog.cellsOf 22 = 1)
    (hv : Value.okWide Try.prog w .any b0 24 v) (h : DataW.Trod enc Try.prog w 0 sp held 24 v d ps) :
    ∃ (x0 : Int) (s1 : Option Addr) (n1 c1 : Nat) (X1 : Nat → Int) (K1 : Nat → Nat) (V1 : Nat → Nat → Int), v = .agg #[.int .i64 x0, .slice s1 n1 c1] ∧ (Lit.int .i64 x0).wf = true ∧ n1 ≤ 9223372036854775807 ∧ (∀ j, j < n1 → K1 j ≤ 9223372036854775807) ∧ RowGat w s1 n1 X1 K1 V1 := by
  obtain ⟨vs, rfl, hc⟩ := open_cells hs (ts := [2, 22]) hts hC hv
  obtain ⟨v0, r0, rfl, q0, ck0⟩ := cellsOk_cons hc
  obtain ⟨v1, r1, rfl, q1, ck1⟩ := cellsOk_cons ck0
  obtain rfl := cellsOk_nil ck1
  obtain ⟨x0, rfl, w0⟩ := cell_int Try.underlying2 q0
  obtain ⟨fuel, hf⟩ := h
  have hf' : DataW.trod enc Try.prog w 0 sp held fuel 24 [.int .i64 x0, v1] = some (d, ps) := hf
  obtain ⟨xs, k', hk, hxy, _, hxl, hfld⟩ := DataW.trod_struct hs hf'
  match xs, hxl with
  | [y0_, y1_], _ =>
    have g1 := hfld 1 f1 rfl
    simp [o1, y1, k1] at g1
    obtain ⟨s1, n1, c1, X1, A1, K1, C1, V1, e1, m1, mk1, R1⟩ := open_GateS Try.underlying22 Try.underlying74 (by kernel_rfl) rfl (by kernel_rfl) rfl (by kernel_rfl) (by kernel_rfl) Try.underlying37 Try.underlying2 (by kernel_rfl) (cell_wideTree Try.underlying22 q1) ⟨_, show DataW.trod enc Try.prog w 0 _ _ _ 22 v1.cells.toList = some _ by rw [cells_sliceTree Try.underlying22 q1]; exact g1⟩
    subst e1
    exact ⟨x0, s1, n1, c1, X1, K1, V1, rfl, w0, m1, mk1, RowGat.of R1⟩
theorem open_Tree {H : Type} {enc : TypeId × Value → H} {w : World} {b0 : Nat} {v : Value} {d : DataW H} {ps : List MemPlace} {sp : Nat → Bool} {held : Bool} (hv : Value.okWide Try.prog w .any b0 24 v) (h : DataW.Trod enc Try.prog w 0 sp held 24 v d ps) :
    ∃ (x0 : Int) (s1 : Option Addr) (n1 c1 : Nat) (X1 : Nat → Int) (K1 : Nat → Nat) (V1 : Nat → Nat → Int), v = .agg #[.int .i64 x0, .slice s1 n1 c1] ∧ (Lit.int .i64 x0).wf = true ∧ n1 ≤ 9223372036854775807 ∧ (∀ j, j < n1 → K1 j ≤ 9223372036854775807) ∧ RowGat w s1 n1 X1 K1 V1 :=
  open_Tree' Try.underlying24 (by kernel_rfl) (by kernel_rfl) rfl rfl (by kernel_rfl) hv h

open Go.ChangeShapes Go.WideShapes Go.ChangeAt Go.RowKit

theorem addr_add1 (b o k : Nat) : (⟨b, o, none⟩ : Addr).add k = ⟨b, o + k, none⟩ := by
  unfold Addr.add
  split
  · rename_i h; subst h; rfl
  · rfl
theorem slice_spot1 {w : World} {b0 : Nat} {t e : TypeId} {a : Addr} {n c : Nat} (ht : Try.prog.underlying t = some (.slice e)) (hv : Value.okWide Try.prog w .any b0 t (.slice (some a) n c)) : a.spot = none := by
  simp only [Value.okWide, ht, Cell.okWide, Cell.ok] at hv
  exact hv.2.2.2.1
theorem cell_lt1 {w : World} {p : Addr} {v : Value} (h : w.cell? p = some v) : p.block < w.heap.size := by
  rcases Nat.lt_or_ge p.block w.heap.size with z | z
  · exact z
  · exfalso
    simp [World.cell?, Array.getElem?_eq_none z] at h
/-- THE LIST OPENED, of any kind of integers. -/
theorem open_kind {H : Type} {enc : TypeId × Value → H} {w : World} {b0 : Nat} {t e : TypeId} {k : IntKind} {v : Value} {d : DataW H} {ps : List MemPlace} {sp : Nat → Bool} {held : Bool} (ht : Try.prog.underlying t = some (.slice e)) (he : Try.prog.underlying e = some (.int k))
    (ce : Try.prog.cellsOf e = 1) (hv : Value.okWide Try.prog w .any b0 t v) (h : DataW.Trod enc Try.prog w 0 sp held t v d ps) :
    ∃ s n c, ∃ V : Nat → Int, v = .slice s n c ∧ n ≤ 9223372036854775807 ∧ ∀ j, j < n → ∃ b o, s = some ⟨b, o, none⟩ ∧ b < w.heap.size ∧ w.cell? ⟨b, o + j, none⟩ = some (.int k (V j)) ∧ (Lit.int k (V j)).wf = true := by
  have hsl : ∃ s n c, v = .slice s n c := by
    simp only [Value.okWide, ht, Cell.okWide] at hv
    cases v <;> simp_all [Cell.ok]
  obtain ⟨s, n, c, rfl⟩ := hsl
  obtain ⟨fuel, hf⟩ := h
  have hf' : DataW.trod enc Try.prog w 0 sp held fuel t [.slice s n c] = some (d, ps) := hf
  rcases Go.Deep.open_slice1 ht ce hf' with ⟨e1, _⟩ | ⟨a, len, cap, m, q, V, D, Pl, e1, _, hl, hm, hmm, _, hx⟩
  · simp only [List.cons.injEq, and_true, Value.slice.injEq] at e1
    obtain ⟨rfl, rfl, rfl⟩ := e1
    exact ⟨none, 0, 0, fun _ => 0, rfl, by omega, fun j hj => by omega⟩
  · simp only [List.cons.injEq, and_true, Value.slice.injEq] at e1
    obtain ⟨rfl, rfl, rfl⟩ := e1
    have hsp := slice_spot1 ht hv
    obtain ⟨b, o, spot⟩ := a
    simp only at hsp
    subst hsp
    have hle : n ≤ m := by rw [hmm]; split <;> omega
    have each : ∀ i, i < n → ∃ z : Int, w.cell? ⟨b, o + i, none⟩ = some (.int k z) ∧ (Lit.int k z).wf = true := by
      intro i hi
      obtain ⟨h0, t0⟩ := hx i (by omega)
      rw [addr_add1] at h0
      obtain ⟨z0, q0, _, wz⟩ := DataW.trod_int he t0
      simp only [List.cons.injEq, and_true] at q0
      exact ⟨z0, by rw [h0, q0], wz⟩
    obtain ⟨f, hfn⟩ := Go.Deep.choose_lt each
    refine ⟨some ⟨b, o, none⟩, n, c, f, rfl, ?_, fun j hj => ?_⟩
    · have : maxLen = 9223372036854775807 := by decide
      omega
    · obtain ⟨h0, h1⟩ := hfn j hj
      exact ⟨b, o, rfl, cell_lt1 h0, h0, h1⟩
theorem wf64 {m : Int} (h : (Lit.int .i64 m).wf = true) : -9223372036854775808 ≤ m ∧ m ≤ 9223372036854775807 := by
  simp only [Lit.wf, Bool.and_eq_true, decide_eq_true_eq] at h
  exact h
/-- A list of int64s. -/
theorem open_i64s {H : Type} {enc : TypeId × Value → H} {w : World} {b0 : Nat} {t e : TypeId} {v : Value} {d : DataW H} {ps : List MemPlace} {sp : Nat → Bool} {held : Bool} (ht : Try.prog.underlying t = some (.slice e)) (he : Try.prog.underlying e = some (.int .i64))
    (ce : Try.prog.cellsOf e = 1) (hv : Value.okWide Try.prog w .any b0 t v) (h : DataW.Trod enc Try.prog w 0 sp held t v d ps) :
    ∃ s n c, ∃ V : Nat → Int, v = .slice s n c ∧ n ≤ 9223372036854775807 ∧ RowI w s n V ∧ ∀ j, j < n → -9223372036854775808 ≤ V j ∧ V j ≤ 9223372036854775807 := by
  obtain ⟨s, n, c, V, e1, e2, e3⟩ := open_kind ht he ce hv h
  refine ⟨s, n, c, V, e1, e2, fun j hj => ?_, fun j hj => ?_⟩
  · obtain ⟨b, o, h1, h2, h3, _⟩ := e3 j hj
    exact ⟨b, o, h1, h2, h3⟩
  · obtain ⟨b, o, _, _, _, h4⟩ := e3 j hj
    exact wf64 h4

open Go.ChangeShapes Go.WideShapes Go.ChangeAt Go.RowKit
set_option linter.unusedVariables false
set_option linter.unusedSimpArgs false

def I64R (S : Nat → Prop) (w : World) (s : Option Addr) (n : Nat) (V : Nat → Int) : Prop := OwnI 0 w s n V ∧ (0 < n → ∀ b, s = some ⟨b, 0, none⟩ → S b)
theorem I64R.row {S : Nat → Prop} {w : World} {s : Option Addr} {n : Nat} {V : Nat → Int} (h : I64R S w s n V) : RowI w s n V := h.1.row
theorem I64R.keep {S : Nat → Prop} {w w' : World} {s : Option Addr} {n : Nat} {V : Nat → Int} (h : I64R S w s n V) (hs : w.heap.size ≤ w'.heap.size) (hb : ∀ k, S k → k < w.heap.size → w'.heap[k]? = w.heap[k]?) : I64R S w' s n V := ⟨fun j hj => by
  obtain ⟨b, e, hB, hl, hc, hf⟩ := h.1 j hj
  have eb := hb b (h.2 (by omega) b e) hl
  exact ⟨b, e, hB, Nat.lt_of_lt_of_le hl hs, (World.cell?_of_block (w := w) (a := ⟨b, j, none⟩) eb).trans hc, (World.frozen?_of_block (w := w) (a := ⟨b, j, none⟩) eb).trans hf⟩, h.2⟩
theorem I64R.below {S : Nat → Prop} {w w' : World} {s : Option Addr} {n : Nat} {V : Nat → Int} (h : I64R S w s n V) (hb : Below w.heap.size w w') : I64R S w' s n V := h.keep hb.size fun k _ hk => hb.block k hk
theorem I64R.set {S : Nat → Prop} {w : World} {s : Option Addr} {n : Nat} {V : Nat → Int} {r o : Nat} {u : Value} (h : I64R S w s n V) (hr : ¬ S r) : I64R S (w.setCell ⟨r, o, none⟩ u) s n V := h.keep (by simp) fun k hk hl => set_block hl (fun e => hr (e ▸ hk))
theorem I64R.widen {S S' : Nat → Prop} {w : World} {s : Option Addr} {n : Nat} {V : Nat → Int} (h : I64R S w s n V) (hs : ∀ k, S k → S' k) : I64R S' w s n V := ⟨h.1, fun a b c => hs b (h.2 a b c)⟩
theorem I64R.of {base : Nat} {w : World} {s : Option Addr} {n : Nat} {V : Nat → Int} (h : OwnI base w s n V) : I64R (fun k => base ≤ k ∧ k < w.heap.size) w s n V := ⟨h.mono (Nat.zero_le _), fun hn b e => by
  obtain ⟨b', e', h1, h2, _⟩ := h 0 hn
  rw [e] at e'
  cases e'
  exact ⟨h1, h2⟩⟩
theorem toInt64S_r (s : Option Addr) (n c : Nat) (V : Nat → Int) (w : World) (hn : (n : Int) ≤ 1048576) (HR : Hid (RowI w s n V)) :
    Calls Try.prog 19 #[.slice s n c] w fun e w' => ∃ (s' : Option Addr) (S : Nat → Prop), e = .returned (.slice s' n n) ∧ (∀ k, S k → w.heap.size ≤ k ∧ k < w'.heap.size) ∧ I64R S w' s' n V ∧ Below w.heap.size w w' :=
  (toInt64S_any s n c V w hn HR).mono fun e w' ⟨h1, h2, h3, h4⟩ => ⟨_, _, h1, fun k hk => hk, I64R.of h3, h4⟩
theorem markInt64S_r (S : Nat → Prop) (s : Option Addr) (n c : Nat) (k : Int) (V : Nat → Int) (w : World) (hn : (n : Int) ≤ 1048576) (k0 : 0 ≤ k) (k1 : k ≤ 100000000) (HR : I64R S w s n V) :
    Calls Try.prog 32 #[.slice s n c, .int .i64 k] w fun e w' => e = .returned (.int .i64 (k + n)) ∧ I64R S w' s n (fun j => k + (j : Int)) ∧ Turn S w w' := by
  by_cases h : n = 0
  · subst h
    refine (markInt64S_nil s c k w).mono ?_
    rintro e w' ⟨rfl, rfl⟩
    exact ⟨by simp, ⟨fun j hj => by omega, fun q => by omega⟩, Turn.refl _ _⟩
  · obtain ⟨b, eb, _⟩ := HR.1 0 (by omega)
    have hb := HR.2 (by omega) b eb
    refine (markInt64S_own 0 s n c k V w hn k0 k1 (Nat.zero_le _) HR.1).mono ?_
    rintro e w' ⟨rfl, O, -, hB⟩
    exact ⟨rfl, ⟨O, HR.2⟩, Turn.of (hB b eb) hb⟩

end Go.Proofs.Ytljaidacaepmmaa
