/-
What is proved: rows of bools, and rows of them that a call owns.
-/
import Derived.Test.YtpnihekpokfooaaOwn
import Derived.Test.YtpnihekpokfooaaBeside
namespace Go.Proofs.Ytpnihekpokfooaa
set_option maxRecDepth 40000
open Go.RowKit
set_option linter.unusedVariables false

def RowB (w : World) (s : Option Addr) (m : Nat) (V : Nat → Bool) : Prop := ∀ j, j < m → ∃ b o, s = some ⟨b, o, none⟩ ∧ b < w.heap.size ∧ w.cell? ⟨b, o + j, none⟩ = some (.bool (V j))
theorem RowB.below {w w' : World} {s : Option Addr} {m : Nat} {V : Nat → Bool} (h : RowB w s m V) (hb : Below w.heap.size w w') : RowB w' s m V := fun j hj => by
  obtain ⟨b, o, e, hl, hc⟩ := h j hj
  exact ⟨b, o, e, Nat.lt_of_lt_of_le hl hb.size, (hb.cell (p := ⟨b, o + j, none⟩) hl).trans hc⟩
def OwnB (base : Nat) (w : World) (s : Option Addr) (m : Nat) (V : Nat → Bool) : Prop := ∀ j, j < m → ∃ b, s = some ⟨b, 0, none⟩ ∧ base ≤ b ∧ b < w.heap.size ∧ w.cell? ⟨b, j, none⟩ = some (.bool (V j)) ∧ w.frozen? ⟨b, j, none⟩ = false
theorem OwnB.row {base : Nat} {w : World} {s : Option Addr} {m : Nat} {V : Nat → Bool} (h : OwnB base w s m V) : RowB w s m V := fun j hj => by
  obtain ⟨b, e, _, hl, hc, _⟩ := h j hj
  exact ⟨b, 0, e, hl, by rw [Nat.zero_add]; exact hc⟩
theorem OwnB.below {base : Nat} {w w' : World} {s : Option Addr} {m : Nat} {V : Nat → Bool} (h : OwnB base w s m V) (hb : Below w.heap.size w w') : OwnB base w' s m V := fun j hj => by
  obtain ⟨b, e, hB, hl, hc, hf⟩ := h j hj
  exact ⟨b, e, hB, Nat.lt_of_lt_of_le hl hb.size, (hb.cell (p := ⟨b, j, none⟩) hl).trans hc, (hb.frozen (p := ⟨b, j, none⟩) hl).trans hf⟩
theorem OwnB.mono {base base' : Nat} {w : World} {s : Option Addr} {m : Nat} {V : Nat → Bool} (h : OwnB base w s m V) (hb : base' ≤ base) : OwnB base' w s m V := fun j hj => by
  obtain ⟨b, e, hB, r⟩ := h j hj
  exact ⟨b, e, by omega, r⟩
theorem OwnB.congr {base : Nat} {w : World} {s : Option Addr} {m : Nat} {V U : Nat → Bool} (h : OwnB base w s m V) (e : ∀ j, j < m → V j = U j) : OwnB base w s m U := fun j hj => by
  rw [← e j hj]; exact h j hj
def markB (k : Int) (j : Nat) : Bool := (k + (j : Int)) % 3 == 0
theorem OwnB.beside {base r : Nat} {w w' : World} {s : Option Addr} {m : Nat} {V : Nat → Bool} (h : OwnB base w s m V) (hb : Beside r w w') (hr : r < base) : OwnB base w' s m V := fun j hj => by
  obtain ⟨b, e, hB, hl, hc, hf⟩ := h j hj
  exact ⟨b, e, hB, Nat.lt_of_lt_of_le hl hb.2.2.2.1, (hb.cell (p := ⟨b, j, none⟩) hl (by simp only; omega)).trans hc, (hb.frozen (p := ⟨b, j, none⟩) hl (by simp only; omega)).trans hf⟩
end Go.Proofs.Ytpnihekpokfooaa
