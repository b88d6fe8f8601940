/-
What is proved: a list of tests in memory.
-/
import Derived.Test.YtfhbkfdfggaomabDoorOwn
namespace Go.Proofs.YtfhbkfdfggaomabDoor
set_option maxRecDepth 40000
open Go.ChangeShapes Go.WideShapes Go.ChangeAt Go.RowKit
set_option linter.unusedVariables false
set_option linter.unusedSimpArgs false

def RowTest (w : World) (s : Option Addr) (n : Nat) (V : Nat → Int × Int) : Prop := ∀ j, j < n → ∃ b o, s = some ⟨b, o, none⟩ ∧ b < w.heap.size ∧ w.cell? ⟨b, o + j * 2, none⟩ = some (.int .i64 ((V j).1)) ∧ w.cell? ⟨b, o + j * 2 + 1, none⟩ = some (.int .i64 ((V j).2))
theorem RowTest.below {w w' : World} {s : Option Addr} {n : Nat} {V : Nat → Int × Int} (h : RowTest w s n V) (hb : Below w.heap.size w w') : RowTest w' s n V := fun j hj => by
  obtain ⟨b, o, e, hl, c0, c1⟩ := h j hj
  exact ⟨b, o, e, Nat.lt_of_lt_of_le hl hb.size, (hb.cell (p := ⟨b, o + j * 2, none⟩) hl).trans c0, (hb.cell (p := ⟨b, o + j * 2 + 1, none⟩) hl).trans c1⟩
/-- A list of n tests in a block from base on, which may be written. -/
def OwnTest (base : Nat) (w : World) (s : Option Addr) (n : Nat) (V : Nat → Int × Int) : Prop := ∀ j, j < n → ∃ b, s = some ⟨b, 0, none⟩ ∧ base ≤ b ∧ b < w.heap.size ∧ (∀ o, w.frozen? ⟨b, o, none⟩ = false) ∧ w.cell? ⟨b, j * 2, none⟩ = some (.int .i64 ((V j).1)) ∧ w.cell? ⟨b, j * 2 + 1, none⟩ = some (.int .i64 ((V j).2))
end Go.Proofs.YtfhbkfdfggaomabDoor
