/-
What is proved: two rows of numbers behind one another; a row's cells by their places.
-/
import Derived.Test.YtffjhbgnhnnfiaaDoorLst
import Derived.Test.YtffjhbgnhnnfiaaDoorLsInt
import Derived.Laws.AppendOwn
namespace Go.Proofs.YtffjhbgnhnnfiaaDoor
set_option maxRecDepth 40000
open Go.ChangeShapes Go.WideShapes Go.ChangeAt Go.RowKit
set_option linter.unusedVariables false
set_option linter.unusedSimpArgs false

def catU (U : Nat → Int) (m : Nat) (X : Nat → Int) (j : Nat) : Int := if j < m then U j else X (j - m)
theorem vals_catN (U : Nat → Int) (m : Nat) (X : Nat → Int) : ∀ n, vals (catU U m X) (m + n) = vals U m ++ vals X n
  | 0 => by
    rw [Nat.add_zero]
    show _ = vals U m ++ []
    rw [List.append_nil]
    unfold vals
    refine List.map_congr_left fun j hj => ?_
    have : j < m := by simpa using hj
    unfold catU
    rw [if_pos this]
  | n + 1 => by
    rw [← Nat.add_assoc, vals_succ, vals_catN U m X n, vals_succ, List.append_assoc]
    have e : catU U m X (m + n) = X n := by unfold catU; rw [if_neg (by omega), show m + n - m = n by omega]
    rw [e]
theorem vals_cat (U : Nat → Int) (k n M : Nat) (X : Nat → Int) : vals (catU U (k * M) X) ((k + n) * M) = vals U (k * M) ++ vals X (n * M) := by
  rw [Nat.add_mul, vals_catN]
theorem row_addL {w : World} {ad : Addr} {n : Nat} {V : Nat → Int} (R : RowI w (some ad) n V) : ∀ j u, (vals V n)[j]? = some u → w.cell? (ad.add j) = some u := fun j u hu => by
  have hj : j < n := by
    rcases Nat.lt_or_ge j n with h | h
    · exact h
    · rw [List.getElem?_eq_none (by rw [vals_length]; exact h)] at hu; cases hu
  rw [vals_at V hj] at hu
  cases hu
  obtain ⟨b, o, e, _, hc⟩ := R j hj
  cases e
  have : (⟨b, o, none⟩ : Addr).add j = ⟨b, o + j, none⟩ := by
    unfold Addr.add
    split
    · rename_i h; subst h; rfl
    · rfl
  rw [this]
  exact hc

open Go.ChangeShapes Go.WideShapes Go.ChangeAt Go.RowKit
set_option linter.unusedVariables false
set_option linter.unusedSimpArgs false

theorem run_append_noneJ {P : Program} {w : World} (base : Nat) (t ty e : TypeId) (i : TypeInfo) (size : Nat) (ht : P.underlying t = some (.slice e)) (hi : P.info? e = some i)
    (v : Value) (n c : Nat) (xs : List Value) (hown : w.ownsRow base e size v n xs) :
    (Builtin.append_ #[t, t] ty #[v, .slice none 0 c]).run P w = .ok v w := by
  rcases hown.2 with ⟨rfl, rfl⟩ | ⟨g, cap, cur, rfl, _, _, hnc, _⟩
  · simp [Builtin.append_, run_underlying ht, sizeOf, typeInfo, hi, Builtin.lenOf, Builtin.firstCells]
  · simp [Builtin.append_, run_underlying ht, sizeOf, typeInfo, hi, Builtin.lenOf, Builtin.firstCells, hnc, storeCells]
theorem joinJ_run {W : World} (ty : TypeId) (base : Nat) (v : Value) (k : Nat) (U : Nat → Int) (sx : Option Addr) (n c : Nat) (X : Nat → Int) (hown : Lst base 2 1 W v k U) (hk : k ≤ 100000) (hn : n ≤ 100000) (hb : base ≤ W.heap.size) (R : RowI W sx n X) : ∃ v' w', (Builtin.append_ #[25, 25] ty #[v, .slice sx n c]).run Tryd.prog W = .ok v' w' ∧ Lst base 2 1 w' v' (k + n) (catU U (k * 1) X) ∧ Below base W w' := by
  obtain ⟨i0, hi, hz0, hz1, hz2⟩ := info_parts info_i64L
  cases sx with
  | some ad =>
    obtain ⟨v', w', h1, h2, h3, _⟩ := run_append_own (P := Tryd.prog) (w := W) base 25 ty 2 i0 (.int .i64 0) 1 8 Tryd.underlying25 hi hz0 hz1 hz2 rfl (by decide) v k (vals U (k * 1)) hown ad n c (vals X (n * 1)) (by rw [vals_length]) (row_addL (by rw [Nat.mul_one]; exact R)) (by
      intro u hu
      simp only [vals, List.mem_map] at hu
      obtain ⟨j, _, rfl⟩ := hu
      rfl) (by unfold maxLen; omega) (by omega) hb
    refine ⟨v', w', h1, ?_, grown_below h3 hb (own_block hown)⟩
    show World.ownsRow _ _ _ _ _ _ _
    rw [vals_cat]
    exact h2
  | none =>
    have e : n = 0 := by
      rcases Nat.eq_zero_or_pos n with q | q
      · exact q
      · obtain ⟨b, o, e, _⟩ := R 0 (by omega)
        cases e
    subst e
    refine ⟨v, W, run_append_noneJ (P := Tryd.prog) (w := W) base 25 ty 2 i0 1 Tryd.underlying25 hi v k c _ hown, ?_, Below.refl _ _⟩
    show World.ownsRow _ _ _ _ _ _ _
    rw [vals_cat]
    simpa [Lst, vals] using hown
theorem joinJ_int {ops : Array Oper} {rest : List Oper} {o : Oper} {a : Act} {Q : Exit → Act → World → Prop} {W : World} (base : Nat) (v : Value) (k : Nat) (U : Nat → Int) (s z : Operand) (sx : Option Addr) (n c : Nat) (X : Nat → Int) (hgd : o.guard = none)
    (ho : o.op = .call { callee := .builtin .append, args := #[s, z], argTypes := #[25, 25] }) (hs : a.eval s = v) (hx : a.eval z = .slice sx n c) (hown : Lst base 2 1 W v k U) (hk : k ≤ 100000) (hn : n ≤ 100000) (hb : base ≤ W.heap.size) (R : RowI W sx n X)
    (h : ∀ v' w', Lst base 2 1 w' v' (k + n) (catU U (k * 1) X) → Below base W w' → wpList Tryd.prog ops Q rest (a.put o.dst v') w') :
    wpList Tryd.prog ops Q (o :: rest) a W := by
  obtain ⟨v', w', hrun, h1, h2⟩ := joinJ_run o.type base v k U sx n c X hown hk hn hb R
  refine wpList_plain hgd fun K hK => ?_
  unfold Oper.wp
  simp [execOp, ho, resolve, invoke, builtin, hs, hx, hrun, Result.andThen]
  exact hK _ _ (h v' w' h1 h2)

end Go.Proofs.YtffjhbgnhnnfiaaDoor
