/-
What is proved: a list of int64s appended whole to a list that the call has made.
-/
import Derived.Test.YtkocbklkiehdiaaLsInt
import Derived.Test.YtkocbklkiehdiaaCat
import Derived.Laws.AppendOwn
namespace Go.Proofs.Ytkocbklkiehdiaa
set_option maxRecDepth 40000
open Go.ChangeShapes Go.WideShapes Go.ChangeAt Go.RowKit
set_option linter.unusedVariables false
set_option linter.unusedSimpArgs false

theorem run_append_noneJ {P : Program} {w : World} (base : Nat) (t ty e : TypeId) (i : TypeInfo) (size : Nat) (ht : P.underlying t = some (.slice e)) (hi : P.info? e = some i)
    (v : Value) (n c : Nat) (xs : List Value) (hown : w.ownsRow base e size v n xs) :
    (Builtin.append_ #[t, t] ty #[v, .slice none 0 c]).run P w = .ok v w := by
  rcases hown.2 with ⟨rfl, rfl⟩ | ⟨g, cap, cur, rfl, _, _, hnc, _⟩
  · simp [Builtin.append_, run_underlying ht, sizeOf, typeInfo, hi, Builtin.lenOf, Builtin.firstCells]
  · simp [Builtin.append_, run_underlying ht, sizeOf, typeInfo, hi, Builtin.lenOf, Builtin.firstCells, hnc, storeCells]
theorem joinJ_run {W : World} (ty : TypeId) (base : Nat) (v : Value) (k : Nat) (U : Nat → Int) (sx : Option Addr) (n c : Nat) (X : Nat → Int) (hown : Lst base 2 1 W v k U) (hk : k ≤ 100000) (hn : n ≤ 100000) (hb : base ≤ W.heap.size) (R : RowI W sx n X) : ∃ v' w', (Builtin.append_ #[24, 24] ty #[v, .slice sx n c]).run Try.prog W = .ok v' w' ∧ Lst base 2 1 w' v' (k + n) (catU U (k * 1) X) ∧ Below base W w' := by
  obtain ⟨i0, hi, hz0, hz1, hz2⟩ := info_parts info_i64L
  cases sx with
  | some ad =>
    obtain ⟨v', w', h1, h2, h3, _⟩ := run_append_own (P := Try.prog) (w := W) base 24 ty 2 i0 (.int .i64 0) 1 8 Try.underlying24 hi hz0 hz1 hz2 rfl (by decide) v k (vals U (k * 1)) hown ad n c (vals X (n * 1)) (by rw [vals_length]) (row_addL (by rw [Nat.mul_one]; exact R)) (by
      intro u hu
      simp only [vals, List.mem_map] at hu
      obtain ⟨j, _, rfl⟩ := hu
      rfl) (by unfold maxLen; omega) (by omega) hb
    refine ⟨v', w', h1, ?_, grown_below h3 hb (own_block hown)⟩
    show World.ownsRow _ _ _ _ _ _ _
    rw [vals_cat]
    exact h2
  | none =>
    have e : n = 0 := by
      rcases Nat.eq_zero_or_pos n with q | q
      · exact q
      · obtain ⟨b, o, e, _⟩ := R 0 (by omega)
        cases e
    subst e
    refine ⟨v, W, run_append_noneJ (P := Try.prog) (w := W) base 24 ty 2 i0 1 Try.underlying24 hi v k c _ hown, ?_, Below.refl _ _⟩
    show World.ownsRow _ _ _ _ _ _ _
    rw [vals_cat]
    simpa [Lst, vals] using hown
theorem joinJ_int {ops : Array Oper} {rest : List Oper} {o : Oper} {a : Act} {Q : Exit → Act → World → Prop} {W : World} (base : Nat) (v : Value) (k : Nat) (U : Nat → Int) (s z : Operand) (sx : Option Addr) (n c : Nat) (X : Nat → Int) (hgd : o.guard = none)
    (ho : o.op = .call { callee := .builtin .append, args := #[s, z], argTypes := #[24, 24] }) (hs : a.eval s = v) (hx : a.eval z = .slice sx n c) (hown : Lst base 2 1 W v k U) (hk : k ≤ 100000) (hn : n ≤ 100000) (hb : base ≤ W.heap.size) (R : RowI W sx n X)
    (h : ∀ v' w', Lst base 2 1 w' v' (k + n) (catU U (k * 1) X) → Below base W w' → wpList Try.prog ops Q rest (a.put o.dst v') w') :
    wpList Try.prog ops Q (o :: rest) a W := by
  obtain ⟨v', w', hrun, h1, h2⟩ := joinJ_run o.type base v k U sx n c X hown hk hn hb R
  refine wpList_plain hgd fun K hK => ?_
  unfold Oper.wp
  simp [execOp, ho, resolve, invoke, builtin, hs, hx, hrun, Result.andThen]
  exact hK _ _ (h v' w' h1 h2)
end Go.Proofs.Ytkocbklkiehdiaa
