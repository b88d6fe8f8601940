/-
What is proved: a list of float64s that is handed in, opened.
-/
import Derived.Test.YtnjagkiimjhnnaaF64T
import Derived.Deep.SlicePairs
import Derived.Deep.Slices
namespace Go.Proofs.Ytnjagkiimjhnnaa
set_option maxRecDepth 40000
open Go.ChangeShapes Go.WideShapes Go.ChangeAt Go.RowKit
set_option linter.unusedVariables false
set_option linter.unusedSimpArgs false

theorem addr_addF (b o k : Nat) : (⟨b, o, none⟩ : Addr).add k = ⟨b, o + k, none⟩ := by
  unfold Addr.add
  split
  · rename_i h; subst h; rfl
  · rfl
theorem slice_spotF {w : World} {b0 : Nat} {t e : TypeId} {a : Addr} {n c : Nat} (ht : Try.prog.underlying t = some (.slice e)) (hv : Value.okWide Try.prog w .any b0 t (.slice (some a) n c)) : a.spot = none := by
  simp only [Value.okWide, ht, Cell.okWide, Cell.ok] at hv
  exact hv.2.2.2.1
theorem cell_ltF {w : World} {p : Addr} {v : Value} (h : w.cell? p = some v) : p.block < w.heap.size := by
  rcases Nat.lt_or_ge p.block w.heap.size with z | z
  · exact z
  · exfalso
    simp [World.cell?, Array.getElem?_eq_none z] at h
theorem wf_f64 {x : Nat} (h : (Lit.float .f64 x).wf = true) : x < 18446744073709551616 := by
  simp only [Lit.wf, decide_eq_true_eq] at h
  exact h
theorem trod_f64 {H : Type} {enc : TypeId × Value → H} {P : Program} {w : World} {base : Nat} {sp : Nat → Bool} {held : Bool} {fuel : Nat} {t : TypeId} {cs : List Value} {x : DataW H × List MemPlace} (ht : P.underlying t = some (.float .f64)) (h : DataW.trod enc P w base sp held fuel t cs = some x) : ∃ n, cs = [.float .f64 n] ∧ n < 18446744073709551616 := by
  cases fuel with
  | zero => simp [DataW.trod] at h
  | succ n =>
    unfold DataW.trod at h
    simp only [ht] at h
    split at h <;> simp_all
    all_goals (first | exact wf_f64 (by simp_all) | (simp_all [Lit.wf]; done))
theorem row_of_trod {H : Type} {enc : TypeId × Value → H} {w : World} {t e : TypeId} {sp : Nat → Bool} {held : Bool} {fuel : Nat} {s : Option Addr} {n c : Nat} {x : DataW H × List MemPlace} (ht : Try.prog.underlying t = some (.slice e)) (he : Try.prog.underlying e = some (.float .f64)) (ce : Try.prog.cellsOf e = 1)
    (hs : ∀ a, s = some a → a.spot = none) (hf : DataW.trod enc Try.prog w 0 sp held fuel t [.slice s n c] = some x) : n ≤ 9223372036854775807 ∧ ∃ V, RowF w s n V := by
  rcases Go.Deep.open_slice1 ht ce hf with ⟨e1, _⟩ | ⟨a, len, cap, m, q, V, D, Pl, e1, _, hl, hm, hmm, _, hx⟩
  · simp only [List.cons.injEq, and_true, Value.slice.injEq] at e1
    obtain ⟨rfl, rfl, rfl⟩ := e1
    exact ⟨by omega, fun _ => none, fun j hj => by omega⟩
  · simp only [List.cons.injEq, and_true, Value.slice.injEq] at e1
    obtain ⟨rfl, rfl, rfl⟩ := e1
    have hsp := hs a rfl
    obtain ⟨b, o, spot⟩ := a
    simp only at hsp
    subst hsp
    have hle : n ≤ m := by rw [hmm]; split <;> omega
    have each : ∀ i, i < n → ∃ z : Nat, w.cell? ⟨b, o + i, none⟩ = some (.float .f64 z) ∧ z < 18446744073709551616 := by
      intro i hi
      obtain ⟨h0, t0⟩ := hx i (by omega)
      rw [addr_addF] at h0
      obtain ⟨z0, q0, l0⟩ := trod_f64 he t0
      simp only [List.cons.injEq, and_true] at q0
      exact ⟨z0, by rw [h0, q0], l0⟩
    obtain ⟨f, hfn⟩ := Go.Deep.choose_lt each
    have mx : maxLen = 9223372036854775807 := by decide
    refine ⟨by omega, fun j => ofW (f j), fun j hj => ?_⟩
    exact ⟨b, o, f j, rfl, cell_ltF (hfn j hj).1, (hfn j hj).1, fl_of _ (hfn j hj).2⟩
/-- THE LIST OPENED: float64s. -/
theorem open_f64s {H : Type} {enc : TypeId × Value → H} {w : World} {b0 : Nat} {t e : TypeId} {v : Value} {d : DataW H} {ps : List MemPlace} {sp : Nat → Bool} {held : Bool} (ht : Try.prog.underlying t = some (.slice e)) (he : Try.prog.underlying e = some (.float .f64)) (ce : Try.prog.cellsOf e = 1)
    (hv : Value.okWide Try.prog w .any b0 t v) (h : DataW.Trod enc Try.prog w 0 sp held t v d ps) : ∃ s n c V, v = .slice s n c ∧ n ≤ 9223372036854775807 ∧ RowF w s n V := by
  have hsl : ∃ s n c, v = .slice s n c := by
    simp only [Value.okWide, ht, Cell.okWide] at hv
    cases v <;> simp_all [Cell.ok]
  obtain ⟨s, n, c, rfl⟩ := hsl
  obtain ⟨fuel, hf⟩ := h
  have hf' : DataW.trod enc Try.prog w 0 sp held fuel t [.slice s n c] = some (d, ps) := hf
  obtain ⟨h1, V, h2⟩ := row_of_trod ht he ce (fun a ha => by subst ha; exact slice_spotF ht hv) hf'
  exact ⟨s, n, c, V, rfl, h1, h2⟩
end Go.Proofs.Ytnjagkiimjhnnaa
