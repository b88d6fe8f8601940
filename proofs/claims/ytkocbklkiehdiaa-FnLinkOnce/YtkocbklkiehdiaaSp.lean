/-
What is proved: what is marked in a list of its own leaves every other block alone.
-/
import Derived.Test.YtkocbklkiehdiaaBeside
namespace Go.Proofs.Ytkocbklkiehdiaa
set_option maxRecDepth 40000
open Go.RowKit
set_option linter.unusedVariables false
set_option linter.unusedSimpArgs false

/-- No block but the list's own is another, and of an empty list none. -/
def Spared (s : Option Addr) (n : Nat) (w w' : World) : Prop := ∀ k, k < w.heap.size → (0 < n → ∀ b, s = some ⟨b, 0, none⟩ → b ≠ k) → w'.heap[k]? = w.heap[k]?
theorem Spared.refl (s : Option Addr) (n : Nat) (w : World) : Spared s n w w := fun _ _ _ => rfl
theorem Spared.from {s : Option Addr} {n : Nat} {w w1 w' : World} (h : Spared s n w1 w') (hb : Below w.heap.size w w1) : Spared s n w w' := fun k hk hn => (h k (Nat.lt_of_lt_of_le hk hb.size) hn).trans (hb.block k hk)
theorem Spared.cell {s : Option Addr} {n : Nat} {w w' : World} (h : Spared s n w w') {p : Addr} (hp : p.block < w.heap.size) (hn : 0 < n → ∀ b, s = some ⟨b, 0, none⟩ → b ≠ p.block) : w'.cell? p = w.cell? p := World.cell?_of_block (w := w) (h p.block hp hn)
theorem Spared.of {s : Option Addr} {n : Nat} {w w' : World} (h : ∀ b, s = some ⟨b, 0, none⟩ → Beside b w w') (e : n = 0 → w' = w) (hs : 0 < n → ∃ b, s = some ⟨b, 0, none⟩) : Spared s n w w' := fun k hk hn => by
  by_cases h0 : n = 0
  · rw [e h0]
  · obtain ⟨b, hb⟩ := hs (by omega)
    exact (h b hb).2.2.2.2 k hk (fun e => hn (by omega) b hb e.symm)
end Go.Proofs.Ytkocbklkiehdiaa
