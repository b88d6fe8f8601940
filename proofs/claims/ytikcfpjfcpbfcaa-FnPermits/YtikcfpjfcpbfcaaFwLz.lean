/-
What is proved: a list of int64s copied whole, one int64 appended to a list that the call has made.
-/
import Derived.Test.YtikcfpjfcpbfcaaFwNz
import Derived.Laws.AppendOwn
namespace Go.Proofs.Ytikcfpjfcpbfcaa
set_option maxRecDepth 40000
open Go.ChangeShapes Go.WideShapes Go.ChangeAt Go.RowKit
set_option linter.unusedVariables false
set_option linter.unusedSimpArgs false

theorem row_addF {w : World} {ad : Addr} {n : Nat} {V : Nat → Int} (R : RowI w (some ad) n V) : ∀ j u, (vals V n)[j]? = some u → w.cell? (ad.add j) = some u := fun j u hu => by
  have hj : j < n := by
    rcases Nat.lt_or_ge j n with h | h
    · exact h
    · rw [List.getElem?_eq_none (by rw [vals_length]; exact h)] at hu; cases hu
  rw [vals_at V hj] at hu
  cases hu
  obtain ⟨b, o, e, _, hc⟩ := R j hj
  cases e
  have : (⟨b, o, none⟩ : Addr).add j = ⟨b, o + j, none⟩ := by
    unfold Addr.add
    split
    · rename_i h; subst h; rfl
    · rfl
  rw [this]
  exact hc
theorem run_append_noneF {P : Program} {w : World} (base : Nat) (t ty e : TypeId) (i : TypeInfo) (size : Nat) (ht : P.underlying t = some (.slice e)) (hi : P.info? e = some i)
    (v : Value) (n c : Nat) (xs : List Value) (hown : w.ownsRow base e size v n xs) :
    (Builtin.append_ #[t, t] ty #[v, .slice none 0 c]).run P w = .ok v w := by
  rcases hown.2 with ⟨rfl, rfl⟩ | ⟨g, cap, cur, rfl, _, _, hnc, _⟩
  · simp [Builtin.append_, run_underlying ht, sizeOf, typeInfo, hi, Builtin.lenOf, Builtin.firstCells]
  · simp [Builtin.append_, run_underlying ht, sizeOf, typeInfo, hi, Builtin.lenOf, Builtin.firstCells, hnc, storeCells]
/-- A list that the call has made, in blocks from base on. -/
def OwL (base : Nat) (w : World) (v : Value) (l : List Int) : Prop := w.ownsRow base 2 1 v l.length (cellsOf l)
theorem OwL.own {base : Nat} {w : World} {v : Value} {l : List Int} (h : OwL base w v l) : ∃ s cap, v = .slice s l.length cap ∧ OwnI base w s l.length (nthI l) := by
  have h1 := h
  unfold OwL at h1
  rw [← vals_nth] at h1
  obtain ⟨s, cap, e, ho⟩ := own_OwnI (size := 1) (U := nthI l) (by rw [Nat.mul_one]; exact h1)
  rw [Nat.mul_one] at ho
  exact ⟨s, cap, e, ho⟩
theorem OwL.nil (w : World) (base : Nat) : OwL base w (.slice none 0 0) [] := by simpa [OwL, cellsOf] using World.ownsRow_nil w base 2 1
theorem OwL.lit (w : World) {base : Nat} (hb : base ≤ w.heap.size) : OwL base (w.alloc (.cells #[] 2)) (.slice (some ⟨w.heap.size, 0, none⟩) 0 0) [] := by
  simpa [OwL, cellsOf] using World.ownsRow_lit (base := base) (size := 1) (e := 2) w #[] 0 hb (by simp [maxLen]) (by simp)
theorem OwL.keep {base : Nat} {w w' : World} {v : Value} {l : List Int} (h : OwL base w v l) (hb : Below w.heap.size w w') : OwL base w' v l := own_same h fun g hg => hb.block g (h.lt g hg).2
/-- A list copied whole to an empty literal. -/
theorem list_copyL {ops : Array Oper} {rest : List Oper} {o : Oper} {a : Act} {Q : Exit → Act → World → Prop} {W : World} (H : Nat) (sx : Option Addr) (n c : Nat) (X : List Int) (s z : Operand) (hgd : o.guard = none)
    (ho : o.op = .call { callee := .builtin .append, args := #[s, z], argTypes := #[23, 23] }) (hs : a.eval s = .slice (some ⟨H, 0, none⟩) 0 0) (hx : a.eval z = .slice sx n c) (hH : W.heap.size = H) (hXn : X.length = n) (hn : n ≤ 1048576) (R : RowI W sx n (nthI X))
    (h : ∀ s' cap w', OwL W.heap.size w' (.slice s' n cap) X → Below W.heap.size W w' → wpList Try.prog ops Q rest (a.put o.dst (.slice s' n cap)) w') :
    wpList Try.prog ops Q (o :: rest) a (W.alloc (.cells #[] 2)) := by
  subst hH
  subst hXn
  obtain ⟨i0, hi, hz0, hz1, hz2⟩ := info_parts info_i64
  have hlit : OwL W.heap.size (W.alloc (.cells #[] 2)) (.slice (some ⟨W.heap.size, 0, none⟩) 0 0) [] := OwL.lit W (Nat.le_refl _)
  have bl : Below W.heap.size W (W.alloc (.cells #[] 2)) := below0 _ _
  have hrun : ∃ s' cap w', (Builtin.append_ #[23, 23] o.type #[.slice (some ⟨W.heap.size, 0, none⟩) 0 0, .slice sx X.length c]).run Try.prog (W.alloc (.cells #[] 2)) = .ok (.slice s' X.length cap) w' ∧ OwL W.heap.size w' (.slice s' X.length cap) X ∧ Below W.heap.size W w' := by
    cases sx with
    | some ad =>
      obtain ⟨v', w', h1, h2, h3, _⟩ := run_append_own (P := Try.prog) (w := W.alloc (.cells #[] 2)) W.heap.size 23 o.type 2 i0 (.int .i64 0) 1 8 Try.underlying23 hi hz0 hz1 hz2 rfl (by decide) (.slice (some ⟨W.heap.size, 0, none⟩) 0 0) 0 [] hlit ad X.length c (vals (nthI X) X.length) (by rw [vals_length, Nat.mul_one]) (row_addF (R.below bl)) (by
        intro u hu
        simp only [vals, List.mem_map] at hu
        obtain ⟨j, _, rfl⟩ := hu
        rfl) (by unfold maxLen; omega) (by omega) (by simp)
      rw [Nat.zero_add, List.nil_append, vals_nth] at h2
      have h2' : OwL W.heap.size w' v' X := h2
      obtain ⟨s', cap, e, _⟩ := h2'.own
      subst e
      exact ⟨s', cap, w', h1, h2, bl.trans (grown_below h3 (by simp) (own_block hlit))⟩
    | none =>
      have e : X.length = 0 := by
        rcases Nat.eq_zero_or_pos X.length with q | q
        · exact q
        · obtain ⟨b, o, e, _⟩ := R 0 (by omega)
          cases e
      have e2 : X = [] := List.length_eq_zero_iff.1 e
      subst e2
      exact ⟨_, _, _, run_append_noneF (P := Try.prog) (w := W.alloc (.cells #[] 2)) W.heap.size 23 o.type 2 i0 1 Try.underlying23 hi _ 0 c _ hlit, hlit, bl⟩
  obtain ⟨s', cap, w', h1, h2, h3⟩ := hrun
  refine wpList_plain hgd fun K hK => ?_
  unfold Oper.wp
  simp [execOp, ho, resolve, invoke, builtin, hs, hx, h1, Result.andThen]
  exact hK _ _ (h s' cap w' h2 h3)
/-- One number behind a list that the call has made. -/
theorem list_oneL {ops : Array Oper} {rest : List Oper} {o : Oper} {a : Act} {Q : Exit → Act → World → Prop} {W : World} {t : TypeId} {x : Int} (base : Nat) (v : Value) (k : Nat) (l : List Int) (s z : Operand) (hgd : o.guard = none)
    (ho : o.op = .call { callee := .builtin .append, args := #[s, z], argTypes := #[23, 23] }) (hs : a.eval s = v) (hx : a.eval z = .slice (some ⟨W.heap.size, 0, none⟩) 1 1) (hl : l.length = k) (hown : OwL base W v l) (hk : k ≤ 1000000) (hb : base ≤ W.heap.size)
    (h : ∀ g cap w', OwL base w' (.slice (some ⟨g, 0, none⟩) (k + 1) cap) (l ++ [x]) → Below base W w' → wpList Try.prog ops Q rest (a.put o.dst (.slice (some ⟨g, 0, none⟩) (k + 1) cap)) w') :
    wpList Try.prog ops Q (o :: rest) a (W.alloc (.cells #[.int .i64 x] t)) := by
  subst hl
  refine list_i64 base v l.length (cellsOf l) s z hgd ho hs hx hown (by omega) hb ?_
  intro g cap w' h1 h2 h3
  refine h g cap w' ?_ (grown_below h2 hb (own_block hown))
  unfold OwL
  rw [cellsOf_snoc]
  simpa using h1
end Go.Proofs.Ytikcfpjfcpbfcaa
