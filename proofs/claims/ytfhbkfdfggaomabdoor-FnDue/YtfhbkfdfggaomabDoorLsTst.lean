/-
What is proved: one Test appended to a list that the call has made.
-/
import Derived.Test.YtfhbkfdfggaomabDoorLst
import Derived.Deep.AppendLies
namespace Go.Proofs.YtfhbkfdfggaomabDoor
set_option maxRecDepth 40000
open Go.ChangeShapes Go.WideShapes Go.ChangeAt Go.RowKit
set_option linter.unusedVariables false
set_option linter.unusedSimpArgs false

theorem info_Test : (Tryd.prog.info? 46).map (fun i => (i.zero, i.size, i.bytes)) = some (some (.agg #[.int .i64 0, .int .i64 0]), 2, 16) := by kernel_rfl
theorem list_Test {ops : Array Oper} {rest : List Oper} {o : Oper} {a : Act} {Q : Exit → Act → World → Prop} {W : World} {t : TypeId} {x0 x1 : Int} (base : Nat) (v : Value) (k : Nat) (U : Nat → Int) (s z : Operand) (hgd : o.guard = none)
    (ho : o.op = .call { callee := .builtin .append, args := #[s, z], argTypes := #[40, 40] }) (hs : a.eval s = v) (hx : a.eval z = .slice (some ⟨W.heap.size, 0, none⟩) 1 1) (hown : Lst base 46 2 W v k U) (hk : k ≤ 1000000) (hb : base ≤ W.heap.size)
    (h : ∀ g cap w', Lst base 46 2 w' (.slice (some ⟨g, 0, none⟩) (k + 1) cap) (k + 1) (putL U 2 k [x0, x1]) → Below base W w' → wpList Tryd.prog ops Q rest (a.put o.dst (.slice (some ⟨g, 0, none⟩) (k + 1) cap)) w') :
    wpList Tryd.prog ops Q (o :: rest) a (W.alloc (.cells #[.int .i64 x0, .int .i64 x1] t)) := by
  obtain ⟨i0, hi, hz0, hz1, hz2⟩ := info_parts info_Test
  refine wpList_append_lies _ hgd s z 40 ho base 46 i0 (.agg #[.int .i64 0, .int .i64 0]) 2 16 Tryd.underlying40 hi hz0 hz1 hz2 rfl (by decide) v k _ hs (hown.alloc _) ⟨W.heap.size, 0, none⟩ 1 1 [.int .i64 x0, .int .i64 x1] hx rfl (newsTwo _ _ _ _) ?_ (by decide) (by unfold maxLen; omega) (by omega) (by simp; omega) _ rfl ?_
  · intro u hu
    simp at hu
    rcases hu with rfl | rfl <;> rfl
  · intro g cap w' h1 h2 _ h3
    exact h g cap w' (hown.on (xs := [x0, x1]) rfl h1) (grown_below (grown_new h2) hb (own_block hown))
end Go.Proofs.YtfhbkfdfggaomabDoor
