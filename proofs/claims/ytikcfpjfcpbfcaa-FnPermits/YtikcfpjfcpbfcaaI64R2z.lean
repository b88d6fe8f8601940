/-
What is proved: a list of the kind I64 that is owned, told with the set of blocks that it may lie in; copied, marked.
-/
import Derived.Test.YtikcfpjfcpbfcaaZcA
import Derived.Test.YtikcfpjfcpbfcaaI64z
namespace Go.Proofs.Ytikcfpjfcpbfcaa
set_option maxRecDepth 40000
open Go.ChangeShapes Go.WideShapes Go.ChangeAt Go.RowKit
set_option linter.unusedVariables false
set_option linter.unusedSimpArgs false

def I64R (S : Nat → Prop) (w : World) (s : Option Addr) (n : Nat) (V : Nat → Int) : Prop := OwnI 0 w s n V ∧ (0 < n → ∀ b, s = some ⟨b, 0, none⟩ → S b)
theorem I64R.row {S : Nat → Prop} {w : World} {s : Option Addr} {n : Nat} {V : Nat → Int} (h : I64R S w s n V) : RowI w s n V := h.1.row
theorem I64R.keep {S : Nat → Prop} {w w' : World} {s : Option Addr} {n : Nat} {V : Nat → Int} (h : I64R S w s n V) (hs : w.heap.size ≤ w'.heap.size) (hb : ∀ k, S k → k < w.heap.size → w'.heap[k]? = w.heap[k]?) : I64R S w' s n V := ⟨fun j hj => by
  obtain ⟨b, e, hB, hl, hc, hf⟩ := h.1 j hj
  have eb := hb b (h.2 (by omega) b e) hl
  exact ⟨b, e, hB, Nat.lt_of_lt_of_le hl hs, (World.cell?_of_block (w := w) (a := ⟨b, j, none⟩) eb).trans hc, (World.frozen?_of_block (w := w) (a := ⟨b, j, none⟩) eb).trans hf⟩, h.2⟩
theorem I64R.below {S : Nat → Prop} {w w' : World} {s : Option Addr} {n : Nat} {V : Nat → Int} (h : I64R S w s n V) (hb : Below w.heap.size w w') : I64R S w' s n V := h.keep hb.size fun k _ hk => hb.block k hk
theorem I64R.set {S : Nat → Prop} {w : World} {s : Option Addr} {n : Nat} {V : Nat → Int} {r o : Nat} {u : Value} (h : I64R S w s n V) (hr : ¬ S r) : I64R S (w.setCell ⟨r, o, none⟩ u) s n V := h.keep (by simp) fun k hk hl => set_block hl (fun e => hr (e ▸ hk))
theorem I64R.of {base : Nat} {w : World} {s : Option Addr} {n : Nat} {V : Nat → Int} (h : OwnI base w s n V) : I64R (fun k => base ≤ k ∧ k < w.heap.size) w s n V := ⟨h.mono (Nat.zero_le _), fun hn b e => by
  obtain ⟨b', e', h1, h2, _⟩ := h 0 hn
  rw [e] at e'
  cases e'
  exact ⟨h1, h2⟩⟩
end Go.Proofs.Ytikcfpjfcpbfcaa
