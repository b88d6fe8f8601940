/-
What is proved: one int64 appended to a list that the call has made, every other block being left alone.
-/
import Derived.Test.YtbabedfbadlhjaaLsInt
namespace Go.Proofs.Ytbabedfbadlhjaa
set_option maxRecDepth 40000
open Go.ChangeShapes Go.WideShapes Go.ChangeAt Go.RowKit
set_option linter.unusedVariables false
set_option linter.unusedSimpArgs false

theorem list_two {ops : Array Oper} {rest : List Oper} {o : Oper} {a : Act} {Q : Exit → Act → World → Prop} {W : World} {t : TypeId} {x0 : Int} (base : Nat) (v : Value) (k : Nat) (U : Nat → Int) (s z : Operand) (hgd : o.guard = none)
    (ho : o.op = .call { callee := .builtin .append, args := #[s, z], argTypes := #[35, 35] }) (hs : a.eval s = v) (hx : a.eval z = .slice (some ⟨W.heap.size, 0, none⟩) 1 1) (hown : Lst base 2 1 W v k U) (hk : k ≤ 1000000) (hb : base ≤ W.heap.size)
    (h : ∀ g cap w', Lst base 2 1 w' (.slice (some ⟨g, 0, none⟩) (k + 1) cap) (k + 1) (putL U 1 k [x0]) → Below base W w' → (∀ q, q < W.heap.size → v.ownBlock ≠ some q → w'.heap[q]? = W.heap[q]?) → (v.ownBlock = some g ∨ W.heap.size < g) → wpList Try.prog ops Q rest (a.put o.dst (.slice (some ⟨g, 0, none⟩) (k + 1) cap)) w') :
    wpList Try.prog ops Q (o :: rest) a (W.alloc (.cells #[.int .i64 x0] t)) := by
  obtain ⟨i0, hi, hz0, hz1, hz2⟩ := info_parts info_i64L
  refine wpList_append_lies _ hgd s z 35 ho base 2 i0 (.int .i64 0) 1 8 Try.underlying35 hi hz0 hz1 hz2 rfl (by decide) v k _ hs (hown.alloc _) ⟨W.heap.size, 0, none⟩ 1 1 [.int .i64 x0] hx rfl (newsOne _ _ _) ?_ (by decide) (by unfold maxLen; omega) (by omega) (by simp; omega) _ rfl ?_
  · intro u hu
    simp at hu
    subst hu; rfl
  · intro g cap w' h1 h2 h4 h3
    refine h g cap w' (hown.on (xs := [x0]) rfl h1) (grown_below (grown_new h2) hb (own_block hown)) (fun q hq hn => (grown_new h2).block q hq (fun e => hn e.symm)) ?_
    rcases h4 with h4 | h4
    · exact .inl h4
    · right; rw [h4]; simp
theorem Blk.far {w w' : World} {b : Nat} {cs : List Value} {v : Value} (h : Blk w b cs) (hf : ∀ q, q < w.heap.size → v.ownBlock ≠ some q → w'.heap[q]? = w.heap[q]?) (hz : w.heap.size ≤ w'.heap.size) (hn : v.ownBlock ≠ some b) : Blk w' b cs := by
  have e := hf b h.1 hn
  exact ⟨Nat.lt_of_lt_of_le h.1 hz, fun o => (World.frozen?_of_block (a := ⟨b, o, none⟩) e).trans (h.2.1 o), fun i u q => (World.cell?_of_block (a := ⟨b, i, none⟩) e).trans (h.2.2 i u q)⟩
theorem Lst.far {w w' : World} {base : Nat} {T : TypeId} {M : Nat} {v u : Value} {k : Nat} {U : Nat → Int} (h : Lst base T M w u k U) (hf : ∀ q, q < w.heap.size → v.ownBlock ≠ some q → w'.heap[q]? = w.heap[q]?) (ha : ∀ g, v.ownBlock = some g → u.ownBlock = some g → False) : Lst base T M w' u k U := h.same fun g hg => hf g (h.lt g hg).2 (fun q => ha g q hg)
end Go.Proofs.Ytbabedfbadlhjaa
