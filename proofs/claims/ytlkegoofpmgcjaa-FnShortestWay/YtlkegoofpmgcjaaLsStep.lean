/-
What is proved: one Step appended to a list that the call has made.
-/
import Derived.Test.YtlkegoofpmgcjaaLst
import Derived.Deep.AppendLies
namespace Go.Proofs.Ytlkegoofpmgcjaa
set_option maxRecDepth 40000
open Go.ChangeShapes Go.WideShapes Go.ChangeAt Go.RowKit
set_option linter.unusedVariables false
set_option linter.unusedSimpArgs false

theorem LsStep_news (W : World) (a b c d e : Value) (t : TypeId) : ∀ j u, [a, b, c, d, e][j]? = some u → (W.alloc (.cells #[a, b, c, d, e] t)).cell? ((⟨W.heap.size, 0, none⟩ : Addr).add j) = some u := World.news_of_block (cs := #[a, b, c, d, e]) (heap_alloc_new W _)
theorem info_Step : (Try.prog.info? 33).map (fun i => (i.zero, i.size, i.bytes)) = some (some (.agg #[.int .i64 0, .int .i64 0, .int .i64 0, .int .i64 0, .int .i64 0]), 5, 40) := by kernel_rfl
theorem list_Step {ops : Array Oper} {rest : List Oper} {o : Oper} {a : Act} {Q : Exit → Act → World → Prop} {W : World} {t : TypeId} {x0 x1 x2 x3 x4 : Int} (base : Nat) (v : Value) (k : Nat) (U : Nat → Int) (s z : Operand) (hgd : o.guard = none)
    (ho : o.op = .call { callee := .builtin .append, args := #[s, z], argTypes := #[24, 24] }) (hs : a.eval s = v) (hx : a.eval z = .slice (some ⟨W.heap.size, 0, none⟩) 1 1) (hown : Lst base 33 5 W v k U) (hk : k ≤ 1000000) (hb : base ≤ W.heap.size)
    (h : ∀ g cap w', Lst base 33 5 w' (.slice (some ⟨g, 0, none⟩) (k + 1) cap) (k + 1) (putL U 5 k [x0, x1, x2, x3, x4]) → Below base W w' → wpList Try.prog ops Q rest (a.put o.dst (.slice (some ⟨g, 0, none⟩) (k + 1) cap)) w') :
    wpList Try.prog ops Q (o :: rest) a (W.alloc (.cells #[.int .i64 x0, .int .i64 x1, .int .i64 x2, .int .i64 x3, .int .i64 x4] t)) := by
  obtain ⟨i0, hi, hz0, hz1, hz2⟩ := info_parts info_Step
  refine wpList_append_lies _ hgd s z 24 ho base 33 i0 (.agg #[.int .i64 0, .int .i64 0, .int .i64 0, .int .i64 0, .int .i64 0]) 5 40 Try.underlying24 hi hz0 hz1 hz2 rfl (by decide) v k _ hs (hown.alloc _) ⟨W.heap.size, 0, none⟩ 1 1 [.int .i64 x0, .int .i64 x1, .int .i64 x2, .int .i64 x3, .int .i64 x4] hx rfl (LsStep_news _ _ _ _ _ _ _) ?_ (by decide) (by unfold maxLen; omega) (by omega) (by simp; omega) _ rfl ?_
  · intro u hu
    simp at hu
    rcases hu with rfl | rfl | rfl | rfl | rfl <;> rfl
  · intro g cap w' h1 h2 _ h3
    exact h g cap w' (hown.on (xs := [x0, x1, x2, x3, x4]) rfl h1) (grown_below (grown_new h2) hb (own_block hown))
end Go.Proofs.Ytlkegoofpmgcjaa
