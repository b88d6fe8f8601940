/-
What is proved: a block of cells, kept from world to world; one number picked out of a literal row.
-/
import Derived.Test.YtkocbklkiehdiaaRdO
namespace Go.Proofs.Ytkocbklkiehdiaa
set_option maxRecDepth 40000
open Go.RowKit
set_option linter.unusedVariables false
set_option linter.unusedSimpArgs false

/-- A block's first cells. -/
def Blk (w : World) (b : Nat) (cs : List Value) : Prop := b < w.heap.size ∧ (∀ o, w.frozen? ⟨b, o, none⟩ = false) ∧ ∀ i v, cs[i]? = some v → w.cell? ⟨b, i, none⟩ = some v
theorem Blk.belowB {w w' : World} {b B : Nat} {cs : List Value} (h : Blk w b cs) (hb : Below B w w') (hl : b < B) : Blk w' b cs :=
  ⟨Nat.lt_of_lt_of_le h.1 hb.size, fun o => (hb.frozen (p := ⟨b, o, none⟩) hl).trans (h.2.1 o), fun i v e => (hb.cell (p := ⟨b, i, none⟩) hl).trans (h.2.2 i v e)⟩
theorem Blk.below {w w' : World} {b : Nat} {cs : List Value} (h : Blk w b cs) (hb : Below w.heap.size w w') : Blk w' b cs := h.belowB hb h.1
theorem Blk.beside {w w' : World} {b r : Nat} {cs : List Value} (h : Blk w b cs) (hb : Beside r w w') (hr : b ≠ r) : Blk w' b cs :=
  ⟨Nat.lt_of_lt_of_le h.1 hb.2.2.2.1, fun o => (hb.frozen (p := ⟨b, o, none⟩) h.1 hr).trans (h.2.1 o), fun i v e => (hb.cell (p := ⟨b, i, none⟩) h.1 hr).trans (h.2.2 i v e)⟩
theorem Blk.new (w : World) (cs : Array Value) (t : TypeId) : Blk (w.alloc (.cells cs t)) w.heap.size cs.toList :=
  ⟨by simp, fun o => by simp [go_sem], fun i v e => by rw [Array.getElem?_toList] at e; simp [go_sem, e]⟩
theorem Blk.set {w : World} {b : Nat} {cs : List Value} (h : Blk w b cs) (i : Nat) (v : Value) : Blk (w.setCell ⟨b, i, none⟩ v) b (cs.set i v) := by
  obtain ⟨h1, h2, h3⟩ := h
  refine ⟨by simpa using h1, fun o => by simp [go_sem, h2], fun j u e => ?_⟩
  by_cases q : j = i
  · subst q
    have hj : j < cs.length := by
      rcases Nat.lt_or_ge j cs.length with z | z
      · exact z
      · rw [List.getElem?_eq_none (by simpa using z)] at e; cases e
    rw [List.getElem?_set_self hj] at e
    cases e
    have := h3 j _ (List.getElem?_eq_getElem hj)
    simp [go_sem, this]
  · rw [List.getElem?_set_ne (fun z => q z.symm)] at e
    have := h3 j u e
    simp [go_sem, this, q]
theorem Beside.onB {r : Nat} {w w1 w2 : World} (h : Beside r w w1) (b : Below w.heap.size w1 w2) : Beside r w w2 := by
  obtain ⟨h1, h2, h3, h4, h5⟩ := h
  exact ⟨b.os.trans h1, b.tape.trans h2, b.output.trans h3, Nat.le_trans h4 b.size, fun k hk hn => (b.block k hk).trans (h5 k hk hn)⟩
theorem Rd.besideR {w w' : World} {r q : Nat} {s : Option Addr} {n c p : Nat} (h : Rd w r s n c p) (hb : Beside q w w') (hq : r ≠ q) (hs : ∀ g o, s = some ⟨g, o, none⟩ → g ≠ q) : Rd w' r s n c p := by
  obtain ⟨h1, h2, h3, h4, h5, h6, h7⟩ := h
  refine ⟨Nat.lt_of_lt_of_le h1 hb.2.2.2.1, fun o => (hb.frozen (p := ⟨r, o, none⟩) h1 hq).trans (h2 o), (hb.cell (p := ⟨r, 0, none⟩) h1 hq).trans h3, (hb.cell (p := ⟨r, 1, none⟩) h1 hq).trans h4, h5, h6, fun i hi => ?_⟩
  obtain ⟨g, o, k, e, hg, hc, hk⟩ := h7 i hi
  exact ⟨g, o, k, e, hg, (hb.cell (p := ⟨g, o + i, none⟩) (Nat.lt_trans hg h1) (hs g o e)).trans hc, hk⟩
theorem picked {w w' : World} {b : Nat} {L : List Int} {j : Int} (h : Blk w b (L.map (Value.int .i64))) (h0 : 0 ≤ j) (h1 : j < L.length) : ∃ (jn : Nat) (v : Int), j = jn ∧ (jn : Int) < L.length ∧ w.cell? ⟨b, jn, none⟩ = some (.int .i64 v) ∧ v ∈ L := by
  obtain ⟨jn, rfl⟩ : ∃ jn : Nat, j = jn := ⟨j.toNat, by omega⟩
  have hl : jn < L.length := by omega
  refine ⟨jn, L[jn], rfl, h1, h.2.2 jn _ ?_, List.getElem_mem hl⟩
  rw [List.getElem?_map, List.getElem?_eq_getElem hl]
  rfl
end Go.Proofs.Ytkocbklkiehdiaa
