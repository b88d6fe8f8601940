/-
What is proved: a list of Instr appended whole to a list that the call has made.
-/
import Derived.Test.YtdidgbibbkhnhaaLsInstr
import Derived.Test.YtdidgbibbkhnhaaCat
namespace Go.Proofs.Ytdidgbibbkhnhaa
set_option maxRecDepth 40000
open Go.ChangeShapes Go.WideShapes Go.ChangeAt Go.RowKit
set_option linter.unusedVariables false
set_option linter.unusedSimpArgs false

theorem join_Instr {ops : Array Oper} {rest : List Oper} {o : Oper} {a : Act} {Q : Exit → Act → World → Prop} {W : World} (base : Nat) (v : Value) (k : Nat) (U : Nat → Int) (s z : Operand) (ad : Addr) (n c : Nat) (X : Nat → Int) (hgd : o.guard = none)
    (ho : o.op = .call { callee := .builtin .append, args := #[s, z], argTypes := #[24, 24] }) (hs : a.eval s = v) (hx : a.eval z = .slice (some ad) n c) (hown : Lst base 31 2 W v k U) (hk : k ≤ 100000) (hn : n ≤ 100000) (hb : base ≤ W.heap.size) (R : RowI W (some ad) (n * 2) X)
    (h : ∀ v' w', Lst base 31 2 w' v' (k + n) (catU U (k * 2) X) → Below base W w' → wpList Try.prog ops Q rest (a.put o.dst v') w') :
    wpList Try.prog ops Q (o :: rest) a W := by
  obtain ⟨i0, hi, hz0, hz1, hz2⟩ := info_parts info_Instr
  refine wpList_append_own _ hgd s z 24 ho base 31 i0 (.agg #[.int .i64 0, .int .i64 0]) 2 16 Try.underlying24 hi hz0 hz1 hz2 rfl (by decide) v k (vals U (k * 2)) hs hown ad n c (vals X (n * 2)) hx (by rw [vals_length]) (row_addL R) ?_ (by unfold maxLen; omega) (by omega) hb ?_
  · intro u hu
    simp only [vals, List.mem_map] at hu
    obtain ⟨j, _, rfl⟩ := hu
    rfl
  · intro v' w' h2 h3 _
    refine h v' w' ?_ (grown_below h3 hb (own_block hown))
    show World.ownsRow _ _ _ _ _ _ _
    rw [vals_cat]
    exact h2
end Go.Proofs.Ytdidgbibbkhnhaa
