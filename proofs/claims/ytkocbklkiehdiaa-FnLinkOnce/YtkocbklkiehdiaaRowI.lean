/-
What is proved: a row of int64 cells is kept where nothing but new memory turns.
-/
import Derived.Test.YtkocbklkiehdiaaOpen
namespace Go.Proofs.Ytkocbklkiehdiaa
set_option maxRecDepth 40000
open Go.RowKit

/-- A row of m int64 cells at a place. -/
def RowI (w : World) (s : Option Addr) (m : Nat) (V : Nat → Int) : Prop := ∀ j, j < m → ∃ b o, s = some ⟨b, o, none⟩ ∧ b < w.heap.size ∧ w.cell? ⟨b, o + j, none⟩ = some (.int .i64 (V j))
theorem RowI.below {w w' : World} {s : Option Addr} {m : Nat} {V : Nat → Int} (h : RowI w s m V) (hb : Below w.heap.size w w') : RowI w' s m V := fun j hj => by
  obtain ⟨b, o, e, hl, hc⟩ := h j hj
  exact ⟨b, o, e, Nat.lt_of_lt_of_le hl hb.size, (hb.cell (p := ⟨b, o + j, none⟩) hl).trans hc⟩
end Go.Proofs.Ytkocbklkiehdiaa
