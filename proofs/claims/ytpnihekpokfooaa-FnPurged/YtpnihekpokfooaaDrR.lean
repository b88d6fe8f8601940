/-
What is proved: a list of int64s on its way of being drawn.
-/
import Derived.Test.YtpnihekpokfooaaRdO
import Derived.Test.YtpnihekpokfooaaRdC
import Derived.Test.YtpnihekpokfooaaOwnL
namespace Go.Proofs.Ytpnihekpokfooaa
set_option maxRecDepth 40000
open Go.RowKit
set_option linter.unusedVariables false
set_option linter.unusedSimpArgs false

theorem Beside.on {r : Nat} {w w1 w2 : World} (h : Beside r w w1) (b : Below w.heap.size w1 w2) : Beside r w w2 := by
  obtain ⟨h1, h2, h3, h4, h5⟩ := h
  exact ⟨b.os.trans h1, b.tape.trans h2, b.output.trans h3, Nat.le_trans h4 b.size, fun k hk hn => (b.block k hk).trans (h5 k hk hn)⟩
/-- A list of int64s on its way of being drawn by the reader in block r. -/
def Drawn (r : Nat) (s : Option Addr) (n c : Nat) (w wr : World) (v : Value) (l : List Int) : Prop := wr.ownsRow w.heap.size 2 1 v l.length (cellsOf l) ∧ Beside r w wr ∧ ∃ p, Rd wr r s n c p
theorem drawn_read {r : Nat} {w wr w2 : World} {v : Value} {l : List Int} (hr : r < w.heap.size) (h : wr.ownsRow w.heap.size 2 1 v l.length (cellsOf l)) (b : Beside r wr w2) : w2.ownsRow w.heap.size 2 1 v l.length (cellsOf l) :=
  own_same h fun g hg => b.2.2.2.2 g (h.lt g hg).2 (by have := (h.lt g hg).1; omega)
theorem RowI.beside {r : Nat} {W W' : World} {t : Option Addr} {m : Nat} {V : Nat → Int} (h : RowI W t m V) (b : Beside r W W') (hn : ∀ g o, t = some ⟨g, o, none⟩ → g ≠ r) : RowI W' t m V := fun j hj => by
  obtain ⟨g, o, e, hl, hc⟩ := h j hj
  exact ⟨g, o, e, Nat.lt_of_lt_of_le hl b.2.2.2.1, (b.cell (p := ⟨g, o + j, none⟩) hl (hn g o e)).trans hc⟩
theorem drawn_on {r : Nat} {s : Option Addr} {n c p : Nat} {w wr w2 w3 : World} {v v' : Value} {l : List Int} {x : Int} (hr : r < w.heap.size) (h : wr.ownsRow w.heap.size 2 1 v l.length (cellsOf l)) (hB : Beside r w wr) (b : Beside r wr w2) (R : Rd w2 r s n c p) (hown : w3.ownsRow w.heap.size 2 1 v' (l.length + 1) (cellsOf l ++ [.int .i64 x])) (hg : w2.grownBy w3 v.ownBlock) : Drawn r s n c w w3 v' (l ++ [x]) := by
  have z := hB.2.2.2.1
  have z2 := b.2.2.2.1
  have ob := own_block (drawn_read hr h b)
  have g1 : Below w.heap.size w2 w3 := grown_below hg (by omega) ob
  exact ⟨by rw [cellsOf_snoc]; simpa using hown, (hB.trans b).on g1, p, R.below' (g1.mono (by omega))⟩

end Go.Proofs.Ytpnihekpokfooaa
