/-
What is proved: what is kept where of the blocks that were there one alone has turned.
-/
import Derived.Test.YtkocbklkiehdiaaOpen
namespace Go.Proofs.Ytkocbklkiehdiaa
set_option maxRecDepth 40000
open Go.RowKit

/-- Of the blocks that were there none has turned but one. -/
def Beside (r : Nat) (w w' : World) : Prop := w'.os = w.os ∧ w'.tape = w.tape ∧ w'.output = w.output ∧ w.heap.size ≤ w'.heap.size ∧ ∀ k, k < w.heap.size → k ≠ r → w'.heap[k]? = w.heap[k]?
theorem Beside.of {r : Nat} {w w' : World} (h : Below w.heap.size w w') : Beside r w w' := ⟨h.os, h.tape, h.output, h.size, fun k hk _ => h.block k hk⟩
theorem Beside.trans {r : Nat} {a b c : World} (h : Beside r a b) (k : Beside r b c) : Beside r a c := by
  obtain ⟨h1, h2, h3, h4, h5⟩ := h
  obtain ⟨k1, k2, k3, k4, k5⟩ := k
  exact ⟨k1.trans h1, k2.trans h2, k3.trans h3, Nat.le_trans h4 k4, fun i hi hn => (k5 i (by omega) hn).trans (h5 i hi hn)⟩
theorem Beside.below {r : Nat} {w w' : World} (h : Beside r w w') {B : Nat} (hr : B ≤ r) (hB : B ≤ w.heap.size) : Below B w w' := by
  obtain ⟨h1, h2, h3, h4, h5⟩ := h
  exact ⟨h1, h2, h3, h4, fun k hk => h5 k (by omega) (by omega)⟩
theorem Beside.setCell (r : Nat) (w : World) (o : Nat) (u : Value) : Beside r w (w.setCell ⟨r, o, none⟩ u) :=
  ⟨rfl, rfl, rfl, by simp [World.setCell], fun k hk hn => Below.heap_setCell _ _ _ _ hn⟩
theorem Beside.cell {r : Nat} {w w' : World} (h : Beside r w w') {p : Addr} (hp : p.block < w.heap.size) (hn : p.block ≠ r) : w'.cell? p = w.cell? p := World.cell?_of_block (w := w) (h.2.2.2.2 p.block hp hn)
theorem Beside.frozen {r : Nat} {w w' : World} (h : Beside r w w') {p : Addr} (hp : p.block < w.heap.size) (hn : p.block ≠ r) : w'.frozen? p = w.frozen? p := World.frozen?_of_block (w := w) (h.2.2.2.2 p.block hp hn)
end Go.Proofs.Ytkocbklkiehdiaa
