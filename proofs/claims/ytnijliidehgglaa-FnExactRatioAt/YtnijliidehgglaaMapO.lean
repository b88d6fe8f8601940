/-
What is proved: a list of structs of an int64 and a list of structs of two int64s that is handed in, opened.
-/
import Derived.Test.YtnijliidehgglaaMapR
import Derived.Deep.SlicePairs
import Derived.Deep.Slices
namespace Go.Proofs.Ytnijliidehgglaa
set_option maxRecDepth 40000
open Go.ChangeShapes Go.WideShapes Go.ChangeAt Go.RowKit
set_option linter.unusedVariables false
set_option linter.unusedSimpArgs false

theorem addr_addM (b o k : Nat) : (⟨b, o, none⟩ : Addr).add k = ⟨b, o + k, none⟩ := by
  unfold Addr.add
  split
  · rename_i h; subst h; rfl
  · rfl
theorem cell_ltM {w : World} {p : Addr} {v : Value} (h : w.cell? p = some v) : p.block < w.heap.size := by
  rcases Nat.lt_or_ge p.block w.heap.size with z | z
  · exact z
  · exfalso
    simp [World.cell?, Array.getElem?_eq_none z] at h
theorem row_pairs_of_trod {H : Type} {enc : TypeId × Value → H} {w : World} {t e : TypeId} {f0 f1 : Field} {sp : Nat → Bool} {held : Bool} {fuel : Nat} {v : Value} {x : DataW H × List MemPlace} (ht : Try.prog.underlying t = some (.slice e)) (he : Try.prog.underlying e = some (.struct #[f0, f1])) (ce : Try.prog.cellsOf e = 2) (o0 : f0.offset = 0) (o1 : f1.offset = 1) (c0 : Try.prog.cellsOf f0.type = 1) (c1 : Try.prog.cellsOf f1.type = 1) (i0 : Try.prog.underlying f0.type = some (.int .i64)) (i1 : Try.prog.underlying f1.type = some (.int .i64))
    (hf : DataW.trod enc Try.prog w 0 sp held fuel t [v] = some x) : ∃ s n c, v = .slice s n c ∧ n ≤ 9223372036854775807 ∧ ∃ V, RowI w s (n * 2) V := by
  rcases Go.Deep.open_slice_pairs ht he ce o0 o1 c0 c1 hf with ⟨e1, _⟩ | ⟨a, len, cap, m, k, V0, V1, D0, D1, P0, P1, e1, _, hl, hm, hmm, _, hx⟩
  · simp only [List.cons.injEq, and_true] at e1
    exact ⟨none, 0, 0, e1, by omega, fun _ => 0, fun j hj => by omega⟩
  · simp only [List.cons.injEq, and_true] at e1
    have hle : len ≤ m := by rw [hmm]; split <;> omega
    have mx : maxLen = 9223372036854775807 := by decide
    refine ⟨some a, len, cap, e1, by omega, ?_⟩
    by_cases hz : len = 0
    · subst hz; exact ⟨fun _ => 0, fun j hj => by omega⟩
    · obtain ⟨b, o, spot⟩ := a
      obtain ⟨h0, _⟩ := hx 0 (by omega)
      have hspot : spot = none := by simpa [Addr.add] using World.cell?_spot h0
      subst hspot
      have each : ∀ i, i < len → ∃ z : Int × Int, w.cell? ⟨b, o + i * 2, none⟩ = some (.int .i64 z.1) ∧ w.cell? ⟨b, o + (i * 2 + 1), none⟩ = some (.int .i64 z.2) := by
        intro i hi
        obtain ⟨h0, h1, t0, t1⟩ := hx i (by omega)
        rw [addr_addM] at h0 h1
        obtain ⟨z0, q0, _, _⟩ := DataW.trod_int i0 t0
        obtain ⟨z1, q1, _, _⟩ := DataW.trod_int i1 t1
        simp only [List.cons.injEq, and_true] at q0 q1
        exact ⟨(z0, z1), by rw [h0, q0], by rw [h1, q1]⟩
      obtain ⟨f, hfn⟩ := Go.Deep.choose_lt each
      refine ⟨fun j => if j % 2 = 0 then (f (j / 2)).1 else (f (j / 2)).2, fun j hj => ?_⟩
      obtain ⟨g0, g1⟩ := hfn (j / 2) (by omega)
      by_cases hp : j % 2 = 0
      · have e : j / 2 * 2 = j := by omega
        rw [e] at g0
        exact ⟨b, o, rfl, cell_ltM g0, by rw [g0]; simp [hp]⟩
      · have e : j / 2 * 2 + 1 = j := by omega
        rw [e] at g1
        exact ⟨b, o, rfl, cell_ltM g1, by rw [g1]; simp [hp]⟩
/-- THE MAP OPENED. -/
theorem open_lines {H : Type} {enc : TypeId × Value → H} {w : World} {b0 : Nat} {t e l k : TypeId} {f0 f1 k0 k1 : Field} {v : Value} {d : DataW H} {ps : List MemPlace} {sp : Nat → Bool} {held : Bool} (ht : Try.prog.underlying t = some (.slice e)) (he : Try.prog.underlying e = some (.struct #[f0, f1])) (ce : Try.prog.cellsOf e = 2) (o0 : f0.offset = 0) (o1 : f1.offset = 1) (c0 : Try.prog.cellsOf f0.type = 1) (c1 : Try.prog.cellsOf f1.type = 1) (i0 : Try.prog.underlying f0.type = some (.int .i64)) (y1 : f1.type = l)
    (hl : Try.prog.underlying l = some (.slice k)) (hk : Try.prog.underlying k = some (.struct #[k0, k1])) (ck : Try.prog.cellsOf k = 2) (p0 : k0.offset = 0) (p1 : k1.offset = 1) (d0 : Try.prog.cellsOf k0.type = 1) (d1 : Try.prog.cellsOf k1.type = 1) (j0 : Try.prog.underlying k0.type = some (.int .i64)) (j1 : Try.prog.underlying k1.type = some (.int .i64))
    (hv : Value.okWide Try.prog w .any b0 t v) (h : DataW.Trod enc Try.prog w 0 sp held t v d ps) : ∃ s n c S K V, v = .slice s n c ∧ n ≤ 9223372036854775807 ∧ (∀ j, j < n → K j ≤ 9223372036854775807) ∧ MapR w s n S K V := by
  have hsl : ∃ s n c, v = .slice s n c := by
    simp only [Value.okWide, ht, Cell.okWide] at hv
    cases v <;> simp_all [Cell.ok]
  obtain ⟨s, n, c, rfl⟩ := hsl
  obtain ⟨fuel, hf⟩ := h
  have hf' : DataW.trod enc Try.prog w 0 sp held fuel t [.slice s n c] = some (d, ps) := hf
  rcases Go.Deep.open_slice_pairs ht he ce o0 o1 c0 c1 hf' with ⟨e1, _⟩ | ⟨a, len, cap, m, q, V0, V1, D0, D1, P0, P1, e1, _, hl', hm, hmm, _, hx⟩
  · simp only [List.cons.injEq, and_true, Value.slice.injEq] at e1
    obtain ⟨rfl, rfl, rfl⟩ := e1
    exact ⟨none, 0, 0, fun _ => 0, fun _ => 0, fun _ _ => 0, rfl, by omega, fun j hj => by omega, fun j hj => by omega⟩
  · simp only [List.cons.injEq, and_true, Value.slice.injEq] at e1
    obtain ⟨rfl, rfl, rfl⟩ := e1
    have hle : n ≤ m := by rw [hmm]; split <;> omega
    have mx : maxLen = 9223372036854775807 := by decide
    by_cases hz : n = 0
    · subst hz; exact ⟨some a, 0, c, fun _ => 0, fun _ => 0, fun _ _ => 0, rfl, by omega, fun j hj => by omega, fun j hj => by omega⟩
    · obtain ⟨b, o, spot⟩ := a
      obtain ⟨h0, _⟩ := hx 0 (by omega)
      have hspot : spot = none := by simpa [Addr.add] using World.cell?_spot h0
      subst hspot
      have each : ∀ i, i < n → ∃ z : Int × Nat × (Nat → Int), w.cell? ⟨b, o + i * 2, none⟩ = some (.int .i64 z.1) ∧ (∃ t' c', w.cell? ⟨b, o + i * 2 + 1, none⟩ = some (.slice t' z.2.1 c') ∧ RowI w t' (z.2.1 * 2) z.2.2) ∧ z.2.1 ≤ 9223372036854775807 := by
        intro i hi
        obtain ⟨h0, h1, t0, t1⟩ := hx i (by omega)
        rw [addr_addM] at h0 h1
        obtain ⟨z0, q0, _, _⟩ := DataW.trod_int i0 t0
        simp only [List.cons.injEq, and_true] at q0
        rw [y1] at t1
        obtain ⟨s', n', c', q1, lm, V, R⟩ := row_pairs_of_trod hl hk ck p0 p1 d0 d1 j0 j1 t1
        exact ⟨(z0, n', V), by rw [h0, q0], ⟨s', c', by rw [← q1]; exact h1, R⟩, lm⟩
      obtain ⟨f, hfn⟩ := Go.Deep.choose_lt each
      refine ⟨some ⟨b, o, none⟩, n, c, fun j => (f j).1, fun j => (f j).2.1, fun j => (f j).2.2, rfl, by omega, fun j hj => (hfn j hj).2.2, fun j hj => ?_⟩
      obtain ⟨g0, ⟨t', c', g1, g2⟩, _⟩ := hfn j hj
      exact ⟨b, o, t', c', rfl, cell_ltM g0, g0, g1, g2⟩
end Go.Proofs.Ytnijliidehgglaa
