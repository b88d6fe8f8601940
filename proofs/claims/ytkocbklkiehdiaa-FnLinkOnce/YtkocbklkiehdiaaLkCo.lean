/-
What is proved: a list of int64s, nil or not, appended whole to an empty one, and slices.Clone of it.
-/
import Derived.Test.YtkocbklkiehdiaaLkC
import Derived.Test.YtkocbklkiehdiaaJnJ

namespace Go.Proofs.Ytkocbklkiehdiaa
set_option maxRecDepth 40000
open Go.ChangeShapes Go.WideShapes Go.ChangeAt Go.RowKit
set_option linter.unusedVariables false
set_option linter.unusedSimpArgs false

theorem row_none {w : World} {n : Nat} {V : Nat → Int} (R : RowI w none n V) : n = 0 := by
  rcases Nat.eq_zero_or_pos n with q | q
  · exact q
  · obtain ⟨b, o, e, _⟩ := R 0 q
    cases e
theorem list_cloneO {ops : Array Oper} {rest : List Oper} {o : Oper} {a : Act} {Q : Exit → Act → World → Prop} {W : World} (H : Nat) (ad : Option Addr) (n c : Nat) (V : Nat → Int) (s z : Operand) (hgd : o.guard = none)
    (ho : o.op = .call { callee := .builtin .append, args := #[s, z], argTypes := #[24, 24] }) (hs : a.eval s = .slice (some ⟨H, 0, none⟩) 0 0) (hx : a.eval z = .slice ad n c) (hH : W.heap.size = H) (hn : n ≤ 1048576) (R : RowI W ad n V)
    (h : ∀ s' cap w', OwnI W.heap.size w' s' n V → Below W.heap.size W w' → wpList Try.prog ops Q rest (a.put o.dst (.slice s' n cap)) w') :
    wpList Try.prog ops Q (o :: rest) a (W.alloc (.cells #[] 2)) := by
  cases ad with
  | some ad => exact list_clone H ad n c V s z hgd ho hs hx hH hn R h
  | none =>
    obtain rfl : n = 0 := row_none R
    subst hH
    obtain ⟨i0, hi, hz0, hz1, hz2⟩ := info_parts info_i64
    have hm := made_lit W V (Nat.le_refl _)
    have hrun := run_append_noneJ (P := Try.prog) (w := W.alloc (.cells #[] 2)) W.heap.size 24 o.type 2 i0 1 Try.underlying24 hi _ 0 c _ hm.1
    refine wpList_plain hgd fun K hK => ?_
    unfold Oper.wp
    simp [execOp, ho, resolve, invoke, builtin, hs, hx, hrun, Result.andThen]
    exact hK _ _ (h _ _ _ (fun j hj => absurd hj (Nat.not_lt_zero j)) (below0 _ _))
set_option maxHeartbeats 1000000 in
theorem clone_anyO (ad : Option Addr) (n c : Nat) (V : Nat → Int) (w : World) (hn : n ≤ 1048576) (HR : Hid (RowI w ad n V)) :
    Calls Try.prog 51 #[.slice ad n c] w fun e w' => ∃ s' c', e = .returned (.slice s' n c') ∧ OwnI w.heap.size w' s' n V ∧ Below w.heap.size w w' := by
  cases ad with
  | some ad => exact clone_any ad n c V w hn HR
  | none =>
    obtain rfl : n = 0 := row_none HR.out
    have hEq : (binOp .eql 24 (.slice none 0 c) (.slice none 0 0)).run Try.prog w = .ok (.bool true) w := by kernel_rfl
    go_enter Try.func51, Try.ntmps51
    go_wp2
    go_ret
    exact ⟨none, 0, rfl, fun j hj => absurd hj (Nat.not_lt_zero j), Below.refl _ _⟩
end Go.Proofs.Ytkocbklkiehdiaa
