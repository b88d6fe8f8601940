/-
What is proved: a row of numbers in a block.
-/
import Derived.Test.YtdidgbibbkhnhaaEx
namespace Go.Proofs.Ytdidgbibbkhnhaa
set_option maxRecDepth 40000
open Go.RowKit
set_option linter.unusedVariables false
set_option linter.unusedSimpArgs false

/-- A row of numbers in a block. -/
def NsAt (g : Nat) (W : World) (m : Nat) (N : Nat → Int) : Prop := g < W.heap.size ∧ (∀ o, W.frozen? ⟨g, o, none⟩ = false) ∧ ∀ j, j < m → W.cell? ⟨g, j, none⟩ = some (.int .i64 (N j))
theorem NsAt.same {g m : Nat} {W W' : World} {N : Nat → Int} (h : NsAt g W m N) (hs : W.heap.size ≤ W'.heap.size) (hb : W'.heap[g]? = W.heap[g]?) : NsAt g W' m N :=
  ⟨Nat.lt_of_lt_of_le h.1 hs, fun o => (World.frozen?_of_block (w := W) hb).trans (h.2.1 o), fun j hj => (World.cell?_of_block (w := W) hb).trans (h.2.2 j hj)⟩
theorem NsAt.set {g m k : Nat} {W : World} {N : Nat → Int} (h : NsAt g W m N) (hk : k < m) (x : Int) : NsAt g (W.setCell ⟨g, k, none⟩ (.int .i64 x)) m (seF N k x) := by
  obtain ⟨h1, h2, h3⟩ := h
  refine ⟨by simpa using h1, fun o => by simp [go_sem, h2], fun j hj => ?_⟩
  unfold seF
  by_cases e : j = k
  · subst e
    rw [if_pos rfl]
    have := h3 j hj
    simp [go_sem, this]
  · rw [if_neg e, World.cell?_setCell_other _ _ _ _ (by intro q; cases q; exact e rfl), h3 j hj]
theorem ns_made (W : World) (m : Nat) (t : TypeId) : NsAt W.heap.size (W.alloc (.cells (madeCells #[.int .i64 0] m) t)) m (fun _ => 0) := by
  refine ⟨by simp, fun o => by simp [go_sem], fun j hj => ?_⟩
  have hm0 : (madeCells #[.int .i64 0] m)[j]? = some (.int .i64 0) := by
    simp only [madeCells, Array.getElem?_map, Array.getElem?_range, hj, if_true, Option.map_some]
    show some ((#[Value.int .i64 0] : Array Value)[j % 1]!) = _
    rw [Nat.mod_one]; rfl
  simpa [go_sem] using hm0
theorem list_push2 {ops : Array Oper} {rest : List Oper} {o : Oper} {a : Act} {Q : Exit → Act → World → Prop} {W : World} {t : TypeId} {x : Int} (B : Nat) (v : Value) (h : Nat) (F : Nat → Int) (s z : Operand) (hgd : o.guard = none)
    (ho : o.op = .call { callee := .builtin .append, args := #[s, z], argTypes := #[25, 25] }) (hs : a.eval s = v) (hx : a.eval z = .slice (some ⟨W.heap.size, 0, none⟩) 1 1) (S : StkI B W v h F) (hB : B ≤ W.heap.size) (hh : h ≤ 10000)
    (k : ∀ g' cap' w', StkI B w' (.slice (some ⟨g', 0, none⟩) (h + 1) cap') (h + 1) (puF F h x) → Below B W w' → wpList Try.prog ops Q rest (a.put o.dst (.slice (some ⟨g', 0, none⟩) (h + 1) cap')) w') :
    wpList Try.prog ops Q (o :: rest) a (W.alloc (.cells #[.int .i64 x] t)) :=
  list_push B v h F s z hgd ho hs hx S hB hh (fun s' cap' w' hst hbl => by
    rcases hst with ⟨_, q⟩ | ⟨g4, cap4, eq, r⟩
    · omega
    · cases eq; exact k g4 _ w' (.inr ⟨g4, _, rfl, r⟩) hbl)
end Go.Proofs.Ytdidgbibbkhnhaa
