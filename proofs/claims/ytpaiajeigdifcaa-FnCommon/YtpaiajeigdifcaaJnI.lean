/-
What is proved: a list of int64s appended whole to a list that the call has made; the law's has.
-/
import Derived.Test.YtpaiajeigdifcaaCmN
import Derived.Test.YtpaiajeigdifcaaLsInt
import Derived.Test.YtpaiajeigdifcaaCat
import Derived.Laws.AppendOwn
namespace Go.Proofs.Ytpaiajeigdifcaa
set_option maxRecDepth 40000
open Go.ChangeShapes Go.WideShapes Go.ChangeAt Go.RowKit
set_option linter.unusedVariables false
set_option linter.unusedSimpArgs false

theorem run_append_none_any {P : Program} {w : World} (base : Nat) (t ty e : TypeId) (i : TypeInfo) (size : Nat) (ht : P.underlying t = some (.slice e)) (hi : P.info? e = some i)
    (v : Value) (n c : Nat) (xs : List Value) (hown : w.ownsRow base e size v n xs) :
    (Builtin.append_ #[t, t] ty #[v, .slice none 0 c]).run P w = .ok v w := by
  rcases hown.2 with ⟨rfl, rfl⟩ | ⟨g, cap, cur, rfl, _, _, hnc, _⟩
  · simp [Builtin.append_, run_underlying ht, sizeOf, typeInfo, hi, Builtin.lenOf, Builtin.firstCells]
  · simp [Builtin.append_, run_underlying ht, sizeOf, typeInfo, hi, Builtin.lenOf, Builtin.firstCells, hnc, storeCells]
theorem join_run {W : World} (ty : TypeId) (base : Nat) (v : Value) (k : Nat) (U : Nat → Int) (sx : Option Addr) (n c : Nat) (X : Nat → Int) (hown : Lst base 2 1 W v k U) (hk : k ≤ 100000) (hn : n ≤ 100000) (hb : base ≤ W.heap.size) (R : RowI W sx n X) : ∃ v' w', (Builtin.append_ #[30, 30] ty #[v, .slice sx n c]).run Try.prog W = .ok v' w' ∧ Lst base 2 1 w' v' (k + n) (catU U (k * 1) X) ∧ Below base W w' := by
  obtain ⟨i0, hi, hz0, hz1, hz2⟩ := info_parts info_i64L
  cases sx with
  | some ad =>
    obtain ⟨v', w', h1, h2, h3, _⟩ := run_append_own (P := Try.prog) (w := W) base 30 ty 2 i0 (.int .i64 0) 1 8 Try.underlying30 hi hz0 hz1 hz2 rfl (by decide) v k (vals U (k * 1)) hown ad n c (vals X (n * 1)) (by rw [vals_length]) (row_addL (by rw [Nat.mul_one]; exact R)) (by
      intro u hu
      simp only [vals, List.mem_map] at hu
      obtain ⟨j, _, rfl⟩ := hu
      rfl) (by unfold maxLen; omega) (by omega) hb
    refine ⟨v', w', h1, ?_, grown_below h3 hb (own_block hown)⟩
    show World.ownsRow _ _ _ _ _ _ _
    rw [vals_cat]
    exact h2
  | none =>
    have e : n = 0 := by
      rcases Nat.eq_zero_or_pos n with q | q
      · exact q
      · obtain ⟨b, o, e, _⟩ := R 0 (by omega)
        cases e
    subst e
    refine ⟨v, W, run_append_none_any (P := Try.prog) (w := W) base 30 ty 2 i0 1 Try.underlying30 hi v k c _ hown, ?_, Below.refl _ _⟩
    show World.ownsRow _ _ _ _ _ _ _
    rw [vals_cat]
    simpa [Lst, vals] using hown
theorem join_int {ops : Array Oper} {rest : List Oper} {o : Oper} {a : Act} {Q : Exit → Act → World → Prop} {W : World} (base : Nat) (v : Value) (k : Nat) (U : Nat → Int) (s z : Operand) (sx : Option Addr) (n c : Nat) (X : Nat → Int) (hgd : o.guard = none)
    (ho : o.op = .call { callee := .builtin .append, args := #[s, z], argTypes := #[30, 30] }) (hs : a.eval s = v) (hx : a.eval z = .slice sx n c) (hown : Lst base 2 1 W v k U) (hk : k ≤ 100000) (hn : n ≤ 100000) (hb : base ≤ W.heap.size) (R : RowI W sx n X)
    (h : ∀ v' w', Lst base 2 1 w' v' (k + n) (catU U (k * 1) X) → Below base W w' → wpList Try.prog ops Q rest (a.put o.dst v') w') :
    wpList Try.prog ops Q (o :: rest) a W := by
  obtain ⟨v', w', hrun, h1, h2⟩ := join_run o.type base v k U sx n c X hown hk hn hb R
  refine wpList_plain hgd fun K hK => ?_
  unfold Oper.wp
  simp [execOp, ho, resolve, invoke, builtin, hs, hx, hrun, Result.andThen]
  exact hK _ _ (h v' w' h1 h2)
theorem join_op {o : Oper} {a : Act} {K : Act → World → Prop} {Q : Exit → Act → World → Prop} {W : World} (base : Nat) (v : Value) (k : Nat) (U : Nat → Int) (s z : Operand) (sx : Option Addr) (n c : Nat) (X : Nat → Int)
    (ho : o.op = .call { callee := .builtin .append, args := #[s, z], argTypes := #[30, 30] }) (hs : a.eval s = v) (hx : a.eval z = .slice sx n c) (hown : Lst base 2 1 W v k U) (hk : k ≤ 100000) (hn : n ≤ 100000) (hb : base ≤ W.heap.size) (R : RowI W sx n X)
    (h : ∀ v' w', Lst base 2 1 w' v' (k + n) (catU U (k * 1) X) → Below base W w' → K (a.put o.dst v') w') :
    o.wp Try.prog a W K Q := by
  obtain ⟨v', w', hrun, h1, h2⟩ := join_run o.type base v k U sx n c X hown hk hn hb R
  unfold Oper.wp
  simp [execOp, ho, resolve, invoke, builtin, hs, hx, hrun, Result.andThen]
  exact h v' w' h1 h2
set_option maxRecDepth 20000 in
set_option maxHeartbeats 2000000 in
theorem hasL_any (s : Option Addr) (k e : Nat) (U : Nat → Int) (x : Int) (w : World) (hk : (k : Int) ≤ 1048576) (HU : Hid (RowI w s k U)) :
    Calls Try.prog 14 #[.slice s k e, .int .i64 x] w fun e w' => e = .returned (.bool (hasW U k x)) ∧ w' = w := by
  go_enter Try.func14, Try.ntmps14
  go_wp2_with fail
  go_loopw [5] (fun i wr => ∃ j : Nat, j ≤ k ∧ i = .int .i64 j ∧ Hid (∀ r, r < j → U r ≠ x) ∧ wr = w) (fun i _ => k - (intOf i).toNat)
  case atStart => exact ⟨0, Nat.zero_le _, rfl, fun r hr => by omega, rfl⟩
  case round =>
    obtain ⟨j, hj, rfl, HP, rfl⟩ := hrel
    by_cases h1 : j < k
    · obtain ⟨g, o, rfl, hg, c0⟩ := HU.out j h1
      have j1 : (j : Int) < (k : Int) := by omega
      by_cases e0 : U j = x
      · have HO : Hid (hasW U k x = true) := decide_eq_true ⟨j, h1, e0⟩
        obtain ⟨z, hz⟩ : ∃ z, U j = z := ⟨_, rfl⟩
        have e1 : (z == x) = true := by rw [← hz]; simpa using e0
        rw [hz] at c0
        clear e0 hz
        go_wp2
        go_ret
        exact ⟨ret_bool HO.out.symm, rfl⟩
      · have HN : Hid (∀ r, r < j + 1 → U r ≠ x) := fun r hr => by
          by_cases q : r = j
          · rw [q]; exact e0
          · exact HP.out r (by omega)
        obtain ⟨z, hz⟩ : ∃ z, U j = z := ⟨_, rfl⟩
        have e1 : (z == x) = false := by rw [← hz]; simpa using e0
        rw [hz] at c0
        clear e0 hz
        go_wp2
        go_roundw
        case rel => exact ⟨j + 1, by omega, by go_num, HN.out, by first | rfl | trivial⟩
        case measure => first | (simp [intOf]; done) | (simp [intOf]; omega)
    · obtain rfl : j = k := by omega
      have HO : Hid (hasW U j x = false) := decide_eq_false fun ⟨i, h, e⟩ => HP.out i h e
      go_wp2
      go_ret
      exact ⟨ret_bool HO.out.symm, rfl⟩
end Go.Proofs.Ytpaiajeigdifcaa
