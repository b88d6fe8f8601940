/-
What is proved: a list of structs of two float64s, and a list of float64s, that is handed in, opened.
-/
import Derived.Test.YtenibgjoojcpkaaF64
import Derived.Deep.SlicePairs
import Derived.Deep.Slices
namespace Go.Proofs.Ytenibgjoojcpkaa
set_option maxRecDepth 40000
open Go.ChangeShapes Go.WideShapes Go.ChangeAt Go.RowKit
set_option linter.unusedVariables false

theorem addr_addF (b o k : Nat) : (⟨b, o, none⟩ : Addr).add k = ⟨b, o + k, none⟩ := by
  unfold Addr.add
  split
  · rename_i h; subst h; rfl
  · rfl
theorem slice_spotF {w : World} {b0 : Nat} {t e : TypeId} {a : Addr} {n c : Nat} (ht : Try.prog.underlying t = some (.slice e)) (hv : Value.okWide Try.prog w .any b0 t (.slice (some a) n c)) : a.spot = none := by
  simp only [Value.okWide, ht, Cell.okWide, Cell.ok] at hv
  exact hv.2.2.2.1
theorem cell_ltF {w : World} {p : Addr} {v : Value} (h : w.cell? p = some v) : p.block < w.heap.size := by
  rcases Nat.lt_or_ge p.block w.heap.size with z | z
  · exact z
  · exfalso
    simp [World.cell?, Array.getElem?_eq_none z] at h
theorem wf_f64 {x : Nat} (h : (Lit.float .f64 x).wf = true) : x < 18446744073709551616 := by
  simp only [Lit.wf, decide_eq_true_eq] at h
  exact h
theorem trod_f64 {H : Type} {enc : TypeId × Value → H} {P : Program} {w : World} {base : Nat} {sp : Nat → Bool} {held : Bool} {fuel : Nat} {t : TypeId} {cs : List Value} {x : DataW H × List MemPlace} (ht : P.underlying t = some (.float .f64)) (h : DataW.trod enc P w base sp held fuel t cs = some x) : ∃ n, cs = [.float .f64 n] ∧ n < 18446744073709551616 := by
  cases fuel with
  | zero => simp [DataW.trod] at h
  | succ n =>
    unfold DataW.trod at h
    simp only [ht] at h
    split at h <;> simp_all
    all_goals (first | exact wf_f64 (by simp_all) | (simp_all [Lit.wf]; done))
/-- THE LIST OPENED. -/
theorem open_fpairs {H : Type} {enc : TypeId × Value → H} {w : World} {b0 : Nat} {t e : TypeId} {f0 f1 : Field} {v : Value} {d : DataW H} {ps : List MemPlace} {sp : Nat → Bool} {held : Bool} (ht : Try.prog.underlying t = some (.slice e)) (he : Try.prog.underlying e = some (.struct #[f0, f1]))
    (ce : Try.prog.cellsOf e = 2) (o0 : f0.offset = 0) (o1 : f1.offset = 1) (c0 : Try.prog.cellsOf f0.type = 1) (c1 : Try.prog.cellsOf f1.type = 1) (i0 : Try.prog.underlying f0.type = some (.float .f64)) (i1 : Try.prog.underlying f1.type = some (.float .f64))
    (hv : Value.okWide Try.prog w .any b0 t v) (h : DataW.Trod enc Try.prog w 0 sp held t v d ps) : ∃ s n c V, v = .slice s n c ∧ n ≤ 9223372036854775807 ∧ RowF w s (n * 2) V := by
  have hsl : ∃ s n c, v = .slice s n c := by
    simp only [Value.okWide, ht, Cell.okWide] at hv
    cases v <;> simp_all [Cell.ok]
  obtain ⟨s, n, c, rfl⟩ := hsl
  obtain ⟨fuel, hf⟩ := h
  have hf' : DataW.trod enc Try.prog w 0 sp held fuel t [.slice s n c] = some (d, ps) := hf
  rcases Go.Deep.open_slice_pairs ht he ce o0 o1 c0 c1 hf' with ⟨e1, _⟩ | ⟨a, len, cap, m, k, V0, V1, D0, D1, P0, P1, e1, _, hl, hm, hmm, _, hx⟩
  · simp only [List.cons.injEq, and_true, Value.slice.injEq] at e1
    obtain ⟨rfl, rfl, rfl⟩ := e1
    exact ⟨none, 0, 0, fun _ => none, rfl, by omega, fun j hj => by omega⟩
  · simp only [List.cons.injEq, and_true, Value.slice.injEq] at e1
    obtain ⟨rfl, rfl, rfl⟩ := e1
    have hsp := slice_spotF ht hv
    obtain ⟨b, o, spot⟩ := a
    simp only at hsp
    subst hsp
    have hle : n ≤ m := by rw [hmm]; split <;> omega
    have each : ∀ i, i < n → ∃ z : Nat × Nat, (w.cell? ⟨b, o + i * 2, none⟩ = some (.float .f64 z.1) ∧ z.1 < 18446744073709551616) ∧ (w.cell? ⟨b, o + (i * 2 + 1), none⟩ = some (.float .f64 z.2) ∧ z.2 < 18446744073709551616) := by
      intro i hi
      obtain ⟨h0, h1, t0, t1⟩ := hx i (by omega)
      rw [addr_addF] at h0 h1
      obtain ⟨z0, q0, l0⟩ := trod_f64 i0 t0
      obtain ⟨z1, q1, l1⟩ := trod_f64 i1 t1
      simp only [List.cons.injEq, and_true] at q0 q1
      exact ⟨(z0, z1), ⟨by rw [h0, q0], l0⟩, ⟨by rw [h1, q1], l1⟩⟩
    obtain ⟨f, hfn⟩ := Go.Deep.choose_lt each
    refine ⟨some ⟨b, o, none⟩, n, c, fun j => ofW (if j % 2 = 0 then (f (j / 2)).1 else (f (j / 2)).2), rfl, ?_, fun j hj => ?_⟩
    · have : maxLen = 9223372036854775807 := by decide
      omega
    · obtain ⟨⟨h0, l0⟩, ⟨h1, l1⟩⟩ := hfn (j / 2) (by omega)
      by_cases z : j % 2 = 0
      · refine ⟨b, o, (f (j / 2)).1, rfl, cell_ltF h0, ?_, ?_⟩
        · have : j = j / 2 * 2 := by omega
          rw [← this] at h0
          exact h0
        · show Fl _ (ofW (if j % 2 = 0 then (f (j / 2)).1 else (f (j / 2)).2))
          rw [if_pos z]; exact fl_of _ l0
      · refine ⟨b, o, (f (j / 2)).2, rfl, cell_ltF h1, ?_, ?_⟩
        · have : j = j / 2 * 2 + 1 := by omega
          rw [← this] at h1
          exact h1
        · show Fl _ (ofW (if j % 2 = 0 then (f (j / 2)).1 else (f (j / 2)).2))
          rw [if_neg z]; exact fl_of _ l1
end Go.Proofs.Ytenibgjoojcpkaa
