/-
What is proved: a list of lists of bools that is handed in, opened.
-/
import Derived.Test.YtoljghhcgphgmaaLBE
import Derived.Test.YtoljghhcgphgmaaAddrL
import Derived.Deep.Slices
namespace Go.Proofs.Ytoljghhcgphgmaa
set_option maxRecDepth 40000
open Go.ChangeShapes Go.WideShapes Go.ChangeAt Go.RowKit
set_option linter.unusedVariables false
set_option linter.unusedSimpArgs false

/-- A row of a list of lists: a cell that is a list of bools. -/
theorem row_bools {H : Type} {enc : TypeId × Value → H} {w : World} {e q : TypeId} {v : Value} {d : DataW H} {ps : List MemPlace} {sp : Nat → Bool} {held : Bool} {fuel : Nat} (he : Try.prog.underlying e = some (.slice q)) (hq : Try.prog.underlying q = some .bool)
    (cq : Try.prog.cellsOf q = 1) (hf : DataW.trod enc Try.prog w 0 sp held fuel e [v] = some (d, ps)) : ∃ x : (Option Addr × Nat) × Nat × (Nat → Bool), v = .slice x.1.1 x.1.2 x.2.1 ∧ x.1.2 ≤ 9223372036854775807 ∧ RowB w x.1.1 x.1.2 x.2.2 := by
  have hml : maxLen = 9223372036854775807 := by decide
  rcases Go.Deep.open_slice1 he cq hf with ⟨e1, _⟩ | ⟨a, len, cap, m, q', V, D, Pl, e1, _, hl, hm, hmm, _, hx⟩
  · simp only [List.cons.injEq, and_true] at e1
    exact ⟨((none, 0), 0, fun _ => false), e1, by show (0 : Nat) ≤ _; omega, fun j hj => absurd hj (Nat.not_lt_zero _)⟩
  · simp only [List.cons.injEq, and_true] at e1
    have hle : len ≤ m := by rw [hmm]; split <;> omega
    have each : ∀ i, i < len → ∃ z : Bool, w.cell? (a.add i) = some (.bool z) := by
      intro i hi
      obtain ⟨h0, t0⟩ := hx i (by omega)
      obtain ⟨z0, q0, _⟩ := DataW.trod_bool hq t0
      simp only [List.cons.injEq, and_true] at q0
      exact ⟨z0, by rw [h0, q0]⟩
    obtain ⟨f, hfn⟩ := Go.Deep.choose_lt each
    refine ⟨((some a, len), cap, f), e1, by show len ≤ _; omega, fun j hj => ?_⟩
    have hj : j < len := hj
    have h0 := hfn j hj
    obtain ⟨b, o, spot⟩ := a
    have hs : spot = none := by
      have := World.cell?_spot (hfn 0 (by omega))
      simpa [Addr.add] using this
    subst hs
    rw [addr_add] at h0
    exact ⟨b, o, rfl, cell_lt (p := ⟨b, o + j, none⟩) h0, h0⟩
/-- THE LIST OPENED. -/
theorem open_lb {H : Type} {enc : TypeId × Value → H} {w : World} {b0 : Nat} {t e q : TypeId} {v : Value} {d : DataW H} {ps : List MemPlace} {held : Bool} (ht : Try.prog.underlying t = some (.slice e)) (he : Try.prog.underlying e = some (.slice q)) (hq : Try.prog.underlying q = some .bool)
    (ce : Try.prog.cellsOf e = 1) (cq : Try.prog.cellsOf q = 1) (hv : Value.okWide Try.prog w .any b0 t v) (h : DataW.Trod enc Try.prog w 0 (fun _ => true) held t v d ps) : ∃ s n c K V, v = .slice s n c ∧ n ≤ 9223372036854775807 ∧ (∀ i, i < n → K i ≤ 9223372036854775807) ∧ RowLB w s n K V := by
  have hsl : ∃ s n c, v = .slice s n c := by
    simp only [Value.okWide, ht, Cell.okWide] at hv
    cases v <;> simp_all [Cell.ok]
  obtain ⟨s, n, c, rfl⟩ := hsl
  obtain ⟨fuel, hf⟩ := h
  have hf' : DataW.trod enc Try.prog w 0 (fun _ => true) held fuel t [.slice s n c] = some (d, ps) := hf
  have hml : maxLen = 9223372036854775807 := by decide
  rcases Go.Deep.open_slice1 ht ce hf' with ⟨e1, _⟩ | ⟨a, len, cap, m, q', V, D, Pl, e1, _, hl, hm, hmm, _, hx⟩
  · simp only [List.cons.injEq, and_true, Value.slice.injEq] at e1
    obtain ⟨rfl, rfl, rfl⟩ := e1
    exact ⟨none, 0, 0, fun _ => 0, fun _ _ => false, rfl, by omega, fun i hi => by omega, fun i hi => by omega⟩
  · simp only [List.cons.injEq, and_true, Value.slice.injEq] at e1
    obtain ⟨rfl, rfl, rfl⟩ := e1
    have hsp := slice_spot ht hv
    obtain ⟨b, o, spot⟩ := a
    simp only at hsp
    subst hsp
    have hle : n ≤ m := by rw [hmm]; split <;> omega
    have each : ∀ i, i < n → ∃ x : (Option Addr × Nat) × Nat × (Nat → Bool), w.cell? ⟨b, o + i, none⟩ = some (.slice x.1.1 x.1.2 x.2.1) ∧ x.1.2 ≤ 9223372036854775807 ∧ RowB w x.1.1 x.1.2 x.2.2 := by
      intro i hi
      obtain ⟨h0, t0⟩ := hx i (by omega)
      rw [addr_add] at h0
      obtain ⟨x, x1, x2, x3⟩ := row_bools he hq cq t0
      exact ⟨x, by rw [h0, x1], x2, x3⟩
    obtain ⟨f, hfn⟩ := Go.Deep.choose_lt each
    refine ⟨some ⟨b, o, none⟩, n, c, fun i => (f i).1.2, fun i => (f i).2.2, rfl, by omega, fun i hi => (hfn i hi).2.1, fun i hi => ?_⟩
    obtain ⟨h0, _, h2⟩ := hfn i hi
    exact ⟨b, o, _, _, rfl, cell_lt (p := ⟨b, o + i, none⟩) h0, h0, h2⟩
end Go.Proofs.Ytoljghhcgphgmaa
