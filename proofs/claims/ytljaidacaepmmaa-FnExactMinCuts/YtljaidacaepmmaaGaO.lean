/-
What is proved: a list of gates that is handed in, opened.
-/
import Derived.Test.YtljaidacaepmmaaGaR
import Derived.Deep.Slices
namespace Go.Proofs.Ytljaidacaepmmaa
set_option maxRecDepth 40000
open Go.ChangeShapes Go.WideShapes Go.ChangeAt Go.RowKit
set_option linter.unusedVariables false
set_option linter.unusedSimpArgs false

theorem Ga_row1 {H : Type} {enc : TypeId × Value → H} {w : World} {t e : TypeId} {sp : Nat → Bool} {held : Bool} {fuel : Nat} {v : Value} {x : DataW H × List MemPlace} (ht : Try.prog.underlying t = some (.slice e)) (he : Try.prog.underlying e = some (.int .i64)) (ce : Try.prog.cellsOf e = 1)
    (hf : DataW.trod enc Try.prog w 0 sp held fuel t [v] = some x) : ∃ s n c, v = .slice s n c ∧ n ≤ 9223372036854775807 ∧ ∃ V, RowI w s n V := by
  rcases Go.Deep.open_slice ht hf with ⟨e1, _⟩ | ⟨a, len, cap, m, k, D, Pl, e1, _, hl, hm, hmm, _, hx⟩
  · simp only [List.cons.injEq, and_true] at e1
    exact ⟨none, 0, 0, e1, by omega, fun _ => 0, fun j hj => by omega⟩
  · simp only [List.cons.injEq, and_true] at e1
    have hle : len ≤ m := by rw [hmm]; split <;> omega
    have mx : maxLen = 9223372036854775807 := by decide
    refine ⟨some a, len, cap, e1, by omega, ?_⟩
    by_cases hz : len = 0
    · subst hz; exact ⟨fun _ => 0, fun j hj => by omega⟩
    · obtain ⟨b, o, spot⟩ := a
      have addr : ∀ k, (⟨b, o, none⟩ : Addr).add k = ⟨b, o + k, none⟩ := fun k => by
        unfold Addr.add
        split
        · rename_i h; subst h; rfl
        · rfl
      have lt : ∀ {p : Addr} {u : Value}, w.cell? p = some u → p.block < w.heap.size := fun {p u} h => by
        rcases Nat.lt_or_ge p.block w.heap.size with z | z
        · exact z
        · exfalso
          simp [World.cell?, Array.getElem?_eq_none z] at h
      obtain ⟨cs0, h10, _⟩ := hx 0 (by omega)
      rw [ce] at h10
      obtain ⟨_, hl0, hc0⟩ := World.cells?_some h10
      have hspot : spot = none := by
        match cs0, hl0 with
        | [u], _ =>
          have := hc0 0 (by omega)
          simp [Addr.add] at this
          exact World.cell?_spot this
      subst hspot
      have each : ∀ i, i < len → ∃ z : Int, w.cell? ⟨b, o + i, none⟩ = some (.int .i64 z) := by
        intro i hi
        obtain ⟨cs', h1, h2⟩ := hx i (by omega)
        rw [ce] at h1
        obtain ⟨_, hlen, hcell⟩ := World.cells?_some h1
        match cs', hlen with
        | [u], _ =>
          have e0 := hcell 0 (by omega)
          rw [Go.Deep.add_add, addr] at e0
          obtain ⟨z0, q0, _, _⟩ := DataW.trod_int he h2
          simp only [List.cons.injEq, and_true] at q0
          exact ⟨z0, by rw [← q0]; simpa [ce] using e0⟩
      obtain ⟨f, hfn⟩ := Go.Deep.choose_lt each
      exact ⟨f, fun j hj => ⟨b, o, rfl, lt (hfn j hj), hfn j hj⟩⟩
theorem Ga_addr (b o k : Nat) : (⟨b, o, none⟩ : Addr).add k = ⟨b, o + k, none⟩ := by
  unfold Addr.add
  split
  · rename_i h; subst h; rfl
  · rfl
theorem Ga_cell_lt {w : World} {p : Addr} {v : Value} (h : w.cell? p = some v) : p.block < w.heap.size := by
  rcases Nat.lt_or_ge p.block w.heap.size with z | z
  · exact z
  · exfalso
    simp [World.cell?, Array.getElem?_eq_none z] at h
theorem Ga_spot {w : World} {b0 : Nat} {t e : TypeId} {a : Addr} {n c : Nat} (ht : Try.prog.underlying t = some (.slice e)) (hv : Value.okWide Try.prog w .any b0 t (.slice (some a) n c)) : a.spot = none := by
  simp only [Value.okWide, ht, Cell.okWide, Cell.ok] at hv
  exact hv.2.2.2.1
theorem open_GateS {H : Type} {enc : TypeId × Value → H} {w : World} {b0 : Nat} {t e : TypeId} {f0 f1 : Field} {l1 : TypeId}  {v : Value} {d : DataW H} {ps : List MemPlace} {sp : Nat → Bool} {held : Bool} (ht : Try.prog.underlying t = some (.slice e)) (he : Try.prog.underlying e = some (.struct #[f0, f1]))
    (ce : Try.prog.cellsOf e = 2) (o0 : f0.offset = 0) (c0 : Try.prog.cellsOf f0.type = 1) (o1 : f1.offset = 1) (c1 : Try.prog.cellsOf f1.type = 1) (i0 : Try.prog.underlying f0.type = some (.int .i64)) (i1 : Try.prog.underlying f1.type = some (.slice l1)) (j1 : Try.prog.underlying l1 = some (.int .i64)) (q1 : Try.prog.cellsOf l1 = 1)
    (hv : Value.okWide Try.prog w .any b0 t v) (h : DataW.Trod enc Try.prog w 0 sp held t v d ps) : ∃ s n c X0 S1 K1 C1 V1, v = .slice s n c ∧ n ≤ 9223372036854775807 ∧ (∀ j, j < n → K1 j ≤ 9223372036854775807) ∧ GateR w s n X0 S1 K1 C1 V1 := by
  have hsl : ∃ s n c, v = .slice s n c := by
    simp only [Value.okWide, ht, Cell.okWide] at hv
    cases v <;> simp_all [Cell.ok]
  obtain ⟨s, n, c, rfl⟩ := hsl
  obtain ⟨fuel, hf⟩ := h
  have hf' : DataW.trod enc Try.prog w 0 sp held fuel t [.slice s n c] = some (d, ps) := hf
  rcases Go.Deep.open_slice ht hf' with ⟨e1, _⟩ | ⟨a, len, cap, m, k, D, Pl, e1, _, hl, hm, hmm, _, hx⟩
  · simp only [List.cons.injEq, and_true, Value.slice.injEq] at e1
    obtain ⟨rfl, rfl, rfl⟩ := e1
    exact ⟨none, 0, 0, fun _ => 0, fun _ => none, fun _ => 0, fun _ => 0, fun _ _ => 0, rfl, by omega, fun j hj => by omega, fun j hj => by omega⟩
  · simp only [List.cons.injEq, and_true, Value.slice.injEq] at e1
    obtain ⟨rfl, rfl, rfl⟩ := e1
    have hsp := Ga_spot ht hv
    obtain ⟨b, o, spot⟩ := a
    simp only at hsp
    subst hsp
    have hle : n ≤ m := by rw [hmm]; split <;> omega
    have mx : maxLen = 9223372036854775807 := by decide
    have each : ∀ i, i < n → ∃ z : Int × (Option Addr × Nat × Nat × (Nat → Int)), w.cell? ⟨b, o + i * 2, none⟩ = some (.int .i64 (z.1)) ∧ (w.cell? ⟨b, o + i * 2 + 1, none⟩ = some (.slice z.2.1 z.2.2.1 z.2.2.2.1) ∧ RowI w z.2.1 z.2.2.1 z.2.2.2.2 ∧ z.2.2.1 ≤ 9223372036854775807) := by
      intro i hi
      obtain ⟨cs', h1, h2⟩ := hx i (by omega)
      rw [ce] at h1
      obtain ⟨_, hlen, hcell⟩ := World.cells?_some h1
      obtain ⟨xs, k', hk, hxy, _, hxl, hf⟩ := DataW.trod_struct he h2
      match xs, hxl, cs', hlen with
      | [y0, y1], _, [v0, v1], _ =>
        have g0 := hf 0 f0 rfl
        have g1 := hf 1 f1 rfl
        simp [o0, c0, o1, c1] at g0 g1
        have e0 := hcell 0 (by omega)
        have e1 := hcell 1 (by omega)
        rw [Go.Deep.add_add, Ga_addr] at e0 e1
        obtain ⟨z0, r0, _, _⟩ := DataW.trod_int i0 g0
        simp only [List.cons.injEq, and_true] at r0
        obtain ⟨s1, n1, k1, r1, lm1, V1, R1⟩ := Ga_row1 i1 j1 q1 g1
        exact ⟨(z0, (s1, n1, k1, V1)), (by rw [← r0]; simpa [Nat.add_assoc] using e0), ⟨(by rw [← r1]; simpa [Nat.add_assoc] using e1), R1, lm1⟩⟩
    obtain ⟨f, hfn⟩ := Go.Deep.choose_lt each
    refine ⟨some ⟨b, o, none⟩, n, c, fun j => (f j).1, fun j => (f j).2.1, fun j => (f j).2.2.1, fun j => (f j).2.2.2.1, fun j => (f j).2.2.2.2, rfl, by omega, fun j hj => (hfn j hj).2.2.2, fun j hj => ?_⟩
    have h0 := hfn j hj
    exact ⟨b, o, rfl, Ga_cell_lt (h0.1), h0.1, h0.2.1, h0.2.2.1⟩
end Go.Proofs.Ytljaidacaepmmaa
