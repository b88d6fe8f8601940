/-
What is proved: a list of integers of one kind that is handed in, opened: its cells, one behind the other.
-/
import Derived.Test.YtlbbdifmjdpfiaaZdA
import Derived.Deep.Slices
namespace Go.Proofs.Ytlbbdifmjdpfiaa
set_option maxRecDepth 40000
open Go.ChangeShapes Go.WideShapes Go.ChangeAt Go.RowKit

theorem addr_add1 (b o k : Nat) : (⟨b, o, none⟩ : Addr).add k = ⟨b, o + k, none⟩ := by
  unfold Addr.add
  split
  · rename_i h; subst h; rfl
  · rfl
theorem slice_spot1 {w : World} {b0 : Nat} {t e : TypeId} {a : Addr} {n c : Nat} (ht : Try.prog.underlying t = some (.slice e)) (hv : Value.okWide Try.prog w .any b0 t (.slice (some a) n c)) : a.spot = none := by
  simp only [Value.okWide, ht, Cell.okWide, Cell.ok] at hv
  exact hv.2.2.2.1
theorem cell_lt1 {w : World} {p : Addr} {v : Value} (h : w.cell? p = some v) : p.block < w.heap.size := by
  rcases Nat.lt_or_ge p.block w.heap.size with z | z
  · exact z
  · exfalso
    simp [World.cell?, Array.getElem?_eq_none z] at h
/-- THE LIST OPENED, of any kind of integers. -/
theorem open_kind {H : Type} {enc : TypeId × Value → H} {w : World} {b0 : Nat} {t e : TypeId} {k : IntKind} {v : Value} {d : DataW H} {ps : List MemPlace} {sp : Nat → Bool} {held : Bool} (ht : Try.prog.underlying t = some (.slice e)) (he : Try.prog.underlying e = some (.int k))
    (ce : Try.prog.cellsOf e = 1) (hv : Value.okWide Try.prog w .any b0 t v) (h : DataW.Trod enc Try.prog w 0 sp held t v d ps) :
    ∃ s n c, ∃ V : Nat → Int, v = .slice s n c ∧ n ≤ 9223372036854775807 ∧ ∀ j, j < n → ∃ b o, s = some ⟨b, o, none⟩ ∧ b < w.heap.size ∧ w.cell? ⟨b, o + j, none⟩ = some (.int k (V j)) ∧ (Lit.int k (V j)).wf = true := by
  have hsl : ∃ s n c, v = .slice s n c := by
    simp only [Value.okWide, ht, Cell.okWide] at hv
    cases v <;> simp_all [Cell.ok]
  obtain ⟨s, n, c, rfl⟩ := hsl
  obtain ⟨fuel, hf⟩ := h
  have hf' : DataW.trod enc Try.prog w 0 sp held fuel t [.slice s n c] = some (d, ps) := hf
  rcases Go.Deep.open_slice1 ht ce hf' with ⟨e1, _⟩ | ⟨a, len, cap, m, q, V, D, Pl, e1, _, hl, hm, hmm, _, hx⟩
  · simp only [List.cons.injEq, and_true, Value.slice.injEq] at e1
    obtain ⟨rfl, rfl, rfl⟩ := e1
    exact ⟨none, 0, 0, fun _ => 0, rfl, by omega, fun j hj => by omega⟩
  · simp only [List.cons.injEq, and_true, Value.slice.injEq] at e1
    obtain ⟨rfl, rfl, rfl⟩ := e1
    have hsp := slice_spot1 ht hv
    obtain ⟨b, o, spot⟩ := a
    simp only at hsp
    subst hsp
    have hle : n ≤ m := by rw [hmm]; split <;> omega
    have each : ∀ i, i < n → ∃ z : Int, w.cell? ⟨b, o + i, none⟩ = some (.int k z) ∧ (Lit.int k z).wf = true := by
      intro i hi
      obtain ⟨h0, t0⟩ := hx i (by omega)
      rw [addr_add1] at h0
      obtain ⟨z0, q0, _, wz⟩ := DataW.trod_int he t0
      simp only [List.cons.injEq, and_true] at q0
      exact ⟨z0, by rw [h0, q0], wz⟩
    obtain ⟨f, hfn⟩ := Go.Deep.choose_lt each
    refine ⟨some ⟨b, o, none⟩, n, c, f, rfl, ?_, fun j hj => ?_⟩
    · have : maxLen = 9223372036854775807 := by decide
      omega
    · obtain ⟨h0, h1⟩ := hfn j hj
      exact ⟨b, o, rfl, cell_lt1 h0, h0, h1⟩
theorem wf64 {m : Int} (h : (Lit.int .i64 m).wf = true) : -9223372036854775808 ≤ m ∧ m ≤ 9223372036854775807 := by
  simp only [Lit.wf, Bool.and_eq_true, decide_eq_true_eq] at h
  exact h
/-- A list of int64s. -/
theorem open_i64s {H : Type} {enc : TypeId × Value → H} {w : World} {b0 : Nat} {t e : TypeId} {v : Value} {d : DataW H} {ps : List MemPlace} {sp : Nat → Bool} {held : Bool} (ht : Try.prog.underlying t = some (.slice e)) (he : Try.prog.underlying e = some (.int .i64))
    (ce : Try.prog.cellsOf e = 1) (hv : Value.okWide Try.prog w .any b0 t v) (h : DataW.Trod enc Try.prog w 0 sp held t v d ps) :
    ∃ s n c, ∃ V : Nat → Int, v = .slice s n c ∧ n ≤ 9223372036854775807 ∧ RowI w s n V ∧ ∀ j, j < n → -9223372036854775808 ≤ V j ∧ V j ≤ 9223372036854775807 := by
  obtain ⟨s, n, c, V, e1, e2, e3⟩ := open_kind ht he ce hv h
  refine ⟨s, n, c, V, e1, e2, fun j hj => ?_, fun j hj => ?_⟩
  · obtain ⟨b, o, h1, h2, h3, _⟩ := e3 j hj
    exact ⟨b, o, h1, h2, h3⟩
  · obtain ⟨b, o, _, _, _, h4⟩ := e3 j hj
    exact wf64 h4
end Go.Proofs.Ytlbbdifmjdpfiaa
