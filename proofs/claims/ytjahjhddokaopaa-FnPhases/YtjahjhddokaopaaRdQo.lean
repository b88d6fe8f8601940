/-
What is proved: a number that a reader draws between two or just outside.
-/
import Derived.Test.YtjahjhddokaopaaRdWo
namespace Go.Proofs.Ytjahjhddokaopaa
set_option maxRecDepth 40000
open Go.RowKit
set_option linter.unusedVariables false

theorem Beside.later {r : Nat} {w w1 w2 : World} (h : Beside r w w1) (b : Below w1.heap.size w1 w2) : Beside r w w2 := h.trans (Beside.of b)

theorem wfi {m : Int} (h : -9223372036854775808 ≤ m) (h' : m ≤ 9223372036854775807) : (Lit.int .i64 m).wf = true := by
  simp only [Lit.wf, Bool.and_eq_true, decide_eq_true_eq]
  exact ⟨h, h'⟩

theorem Beside.fresh {r : Nat} {w x : World} (h : Beside r w x) {q : Addr} (hq : w.heap.size ≤ q.block) (u : Value) : Beside r w (x.setCell q u) := by
  obtain ⟨h1, h2, h3, h4, h5⟩ := h
  exact ⟨h1, h2, h3, by simpa [World.setCell] using h4, fun k hk hn => (Below.heap_setCell _ _ _ _ (by omega)).trans (h5 k hk hn)⟩
theorem Rd.below' {w w' : World} {r : Nat} {s : Option Addr} {n c p : Nat} (h : Rd w r s n c p) (hb : Below (r + 1) w w') : Rd w' r s n c p := by
  obtain ⟨h1, h2, h3, h4, h5, h6, h7⟩ := h
  refine ⟨Nat.lt_of_lt_of_le h1 hb.size, fun o => (hb.frozen (p := ⟨r, o, none⟩) (Nat.lt_succ_self r)).trans (h2 o), (hb.cell (p := ⟨r, 0, none⟩) (Nat.lt_succ_self r)).trans h3, (hb.cell (p := ⟨r, 1, none⟩) (Nat.lt_succ_self r)).trans h4, h5, h6, fun i hi => ?_⟩
  obtain ⟨g, o, k, e, hg, hc, hk⟩ := h7 i hi
  exact ⟨g, o, k, e, hg, (hb.cell (p := ⟨g, o + i, none⟩) (Nat.lt_succ_of_lt hg)).trans hc, hk⟩

end Go.Proofs.Ytjahjhddokaopaa
