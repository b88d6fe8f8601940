/-
What is proved: a row that a call makes by appending, told as a list; where it lies.
-/
import Derived.Test.YtlbbdifmjdpfiaaOwnVz
namespace Go.Proofs.Ytlbbdifmjdpfiaa
set_option maxRecDepth 40000
open Go.RowKit
set_option linter.unusedVariables false

theorem list_i64h {ops : Array Oper} {rest : List Oper} {o : Oper} {a : Act} {Q : Exit → Act → World → Prop} {W : World} {t : TypeId} {x : Int} (base : Nat) (v : Value) (k : Nat) (xs : List Value) (s z : Operand) (hgd : o.guard = none)
    (ho : o.op = .call { callee := .builtin .append, args := #[s, z], argTypes := #[33, 33] }) (hs : a.eval s = v) (hx : a.eval z = .slice (some ⟨W.heap.size, 0, none⟩) 1 1) (hown : W.ownsRow base 2 1 v k xs) (hk : k ≤ 10000000) (hb : base ≤ W.heap.size)
    (h : ∀ g cap w', w'.ownsRow base 2 1 (.slice (some ⟨g, 0, none⟩) (k + 1) cap) (k + 1) (xs ++ [.int .i64 x]) → W.grownBy w' v.ownBlock → g < w'.heap.size → (v.ownBlock = some g ∨ W.heap.size < g) → wpList Try.prog ops Q rest (a.put o.dst (.slice (some ⟨g, 0, none⟩) (k + 1) cap)) w') :
    wpList Try.prog ops Q (o :: rest) a (W.alloc (.cells #[.int .i64 x] t)) := by
  obtain ⟨i0, hi, hz0, hz1, hz2⟩ := info_parts info_i64
  refine wpList_append_lies _ hgd s z 33 ho base 2 i0 (.int .i64 0) 1 8 Try.underlying33 hi hz0 hz1 hz2 rfl (by decide) v k xs hs (hown.alloc _) ⟨W.heap.size, 0, none⟩ 1 1 [.int .i64 x] hx rfl (newsOne _ _ _) ?_ (by decide) (by unfold maxLen; omega) (by omega) (by simp; omega) _ rfl ?_
  · intro u hu
    simp at hu
    subst hu; rfl
  · intro g cap w' h1 h2 h4 h3
    refine h g cap w' h1 (grown_new h2) h3 ?_
    rcases h4 with h4 | h4
    · exact .inl h4
    · right; rw [h4]; simp

theorem own_drewN {w : World} {base : Nat} {e : TypeId} {size : Nat} {v : Value} {n : Nat} {xs : List Value} (h : w.ownsRow base e size v n xs) (q : Nat) : (w.drewN q).ownsRow base e size v n xs := h
theorem below_drewN (w : World) (q : Nat) : Below w.heap.size w (w.drewN q) := bDrewN (Below.refl _ _) q

def cellsOf (l : List Int) : List Value := l.map fun x => .int .i64 x
theorem cellsOf_snoc (l : List Int) (x : Int) : cellsOf (l ++ [x]) = cellsOf l ++ [.int .i64 x] := by simp [cellsOf]
/-- The numbers of a list by their places. -/
def nthI (l : List Int) (j : Nat) : Int := l.getD j 0
theorem vals_nth (l : List Int) : vals (nthI l) l.length = cellsOf l := by
  unfold vals cellsOf
  refine List.ext_getElem? fun i => ?_
  by_cases h : i < l.length
  · simp [h, nthI]
  · simp [h]
/-- A row that the call makes, its numbers a list; its block is b0 or one from H on. -/
def MadeL (base b0 H : Nat) (w wr : World) (v : Value) (l : List Int) : Prop := wr.ownsRow base 2 1 v l.length (cellsOf l) ∧ Below base w wr ∧ ∀ r, v.ownBlock = some r → r = b0 ∨ H ≤ r
theorem madeL_lit (w : World) {base b0 : Nat} (hb : base ≤ w.heap.size) : MadeL base b0 0 w (w.alloc (.cells #[] 2)) (.slice (some ⟨w.heap.size, 0, none⟩) 0 0) [] :=
  ⟨by simpa [cellsOf] using World.ownsRow_lit (base := base) (size := 1) (e := 2) w #[] 0 hb (by simp [maxLen]) (by simp), (Below.refl _ _).alloc hb _, fun r hr => .inr (by omega)⟩
theorem madeL_nil (w : World) {base b0 H : Nat} : MadeL base b0 H w w (.slice none 0 0) [] :=
  ⟨by simpa [cellsOf] using World.ownsRow_nil w base 2 1, Below.refl _ _, fun r hr => by simp [Value.ownBlock] at hr⟩
theorem madeL_on {base b0 H : Nat} {w wr w1 w2 : World} {v : Value} {l : List Int} {g cap : Nat} {x : Int} (h : MadeL base b0 H w wr v l) (hb : Below wr.heap.size wr w1) (hz : base ≤ wr.heap.size) (hH : H ≤ wr.heap.size) (hown : w2.ownsRow base 2 1 (.slice (some ⟨g, 0, none⟩) (l.length + 1) cap) (l.length + 1) (cellsOf l ++ [.int .i64 x])) (hg : w1.grownBy w2 v.ownBlock) (hat : v.ownBlock = some g ∨ w1.heap.size < g) : MadeL base b0 H w w2 (.slice (some ⟨g, 0, none⟩) (l.length + 1) cap) (l ++ [x]) := by
  obtain ⟨h1, h2, h3⟩ := h
  have z1 := hb.size
  refine ⟨by rw [cellsOf_snoc]; simpa using hown, (h2.trans (hb.mono hz)).trans (grown_below hg (by omega) (own_block h1)), fun r hr => ?_⟩
  have hr' : g = r := by simpa [Value.ownBlock] using hr
  subst hr'
  rcases hat with q | q
  · exact h3 g q
  · right; omega
theorem madeL_own {base b0 H : Nat} {w wr : World} {v : Value} {l : List Int} (h : MadeL base b0 H w wr v l) : ∃ s cap, v = .slice s l.length cap ∧ OwnI base wr s l.length (nthI l) ∧ ∀ b o, s = some ⟨b, o, none⟩ → b = b0 ∨ H ≤ b := by
  have h1 := h.1
  rw [← vals_nth] at h1
  obtain ⟨s, cap, e, ho⟩ := own_OwnI (size := 1) (U := nthI l) (by rw [Nat.mul_one]; exact h1)
  rw [Nat.mul_one] at ho
  refine ⟨s, cap, e, ho, fun b o hs => h.2.2 b ?_⟩
  rw [e, hs]; rfl
theorem own_same {w w' : World} {base : Nat} {e : TypeId} {size : Nat} {v : Value} {n : Nat} {xs : List Value} (h : w.ownsRow base e size v n xs) (hs : ∀ g, v.ownBlock = some g → w'.heap[g]? = w.heap[g]?) : w'.ownsRow base e size v n xs := by
  refine ⟨h.1, ?_⟩
  rcases h.2 with q | ⟨g, cap, cur, e1, hb, hg, r⟩
  · exact .inl q
  · exact .inr ⟨g, cap, cur, e1, hb, (hs g (by rw [e1]; rfl)).trans hg, r⟩
/-- A row elsewhere is kept when another one grows. -/
theorem row_grown {W w2 : World} {v : Value} (hg : W.grownBy w2 v.ownBlock) {s : Option Addr} {m : Nat} {V : Nat → Int} (h : RowI W s m V) (hb : ∀ b o, s = some ⟨b, o, none⟩ → v.ownBlock ≠ some b) : RowI w2 s m V := fun j hj => by
  obtain ⟨b, o, e, hl, hc⟩ := h j hj
  exact ⟨b, o, e, Nat.lt_of_lt_of_le hl hg.size, (hg.cell_far ⟨b, o + j, none⟩ hl (fun q => hb b o e q.symm)).trans hc⟩
end Go.Proofs.Ytlbbdifmjdpfiaa
