/-
What is proved: a list of lists of int64s that is handed in, opened; such a list marked, and asked whether it is marked.
-/
import Derived.Test.YtaagelnbkenbpaaLLE
import Derived.Test.YtaagelnbkenbpaaOpenI
import Derived.Deep.Matrix
namespace Go.Proofs.Ytaagelnbkenbpaa
set_option maxRecDepth 40000
open Go.ChangeShapes Go.WideShapes Go.ChangeAt Go.RowKit
set_option linter.unusedVariables false
set_option linter.unusedSimpArgs false

/-- THE LIST OPENED. -/
theorem open_ll {H : Type} {enc : TypeId × Value → H} {w : World} {b0 : Nat} {t e q : TypeId} {v : Value} {d : DataW H} {ps : List MemPlace} {held : Bool} (ht : Try.prog.underlying t = some (.slice e)) (he : Try.prog.underlying e = some (.slice q)) (hq : Try.prog.underlying q = some (.int .i64))
    (ce : Try.prog.cellsOf e = 1) (cq : Try.prog.cellsOf q = 1) (hv : Value.okWide Try.prog w .any b0 t v) (h : DataW.Trod enc Try.prog w 0 (fun _ => true) held t v d ps) : ∃ s n c K V, v = .slice s n c ∧ n ≤ 9223372036854775807 ∧ (∀ i, i < n → K i ≤ 9223372036854775807) ∧ RowLL w s n K V := by
  have hsl : ∃ s n c, v = .slice s n c := by
    simp only [Value.okWide, ht, Cell.okWide] at hv
    cases v <;> simp_all [Cell.ok]
  obtain ⟨s, n, c, rfl⟩ := hsl
  obtain ⟨fuel, hf⟩ := h
  have hf' : DataW.trod enc Try.prog w 0 (fun _ => true) held fuel t [.slice s n c] = some (d, ps) := hf
  have hml : maxLen = 9223372036854775807 := by decide
  rcases Go.Deep.open_int_rows ht he hq ce cq hf' with ⟨e1, _⟩ | ⟨a, len, cap, A, L, C, Z, e1, _, hl, hm, _, hx⟩
  · simp only [List.cons.injEq, and_true, Value.slice.injEq] at e1
    obtain ⟨rfl, rfl, rfl⟩ := e1
    exact ⟨none, 0, 0, fun _ => 0, fun _ _ => 0, rfl, by omega, fun i hi => by omega, fun i hi => by omega⟩
  · simp only [List.cons.injEq, and_true, Value.slice.injEq] at e1
    obtain ⟨rfl, rfl, rfl⟩ := e1
    have hsp := slice_spot1 ht hv
    obtain ⟨b, o, spot⟩ := a
    simp only at hsp
    subst hsp
    refine ⟨some ⟨b, o, none⟩, n, c, L, fun i j => (Z i).getD j 0, rfl, by omega, fun i hi => ?_, fun i hi => ?_⟩
    · obtain ⟨_, h1, h2, _⟩ := hx i (by omega)
      omega
    · obtain ⟨h0, h1, h2, h3, h4, h5, h6⟩ := hx i (by omega)
      rw [addr_add1] at h0
      refine ⟨b, o, A i, C i, rfl, cell_lt1 h0, h0, fun j hj => ?_⟩
      cases hA : A i with
      | none => have := h5 hA; omega
      | some a' =>
        have hc := (h6 a' hA).2
        obtain ⟨b', o', sp'⟩ := a'
        have c0 := hc 0 (by omega)
        have hs : sp' = none := by
          have := World.cell?_spot c0
          simpa [Addr.add] using this
        subst hs
        have cj := hc j (by omega)
        rw [addr_add1] at cj
        exact ⟨b', o', rfl, cell_lt1 cj, cj⟩
end Go.Proofs.Ytaagelnbkenbpaa
