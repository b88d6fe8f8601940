/-
What is proved: one int64 appended to a row that the call has made, in a plain statement; how such a row goes on.
-/
import Derived.Test.YtlbbdifmjdpfiaaZdA
namespace Go.Proofs.Ytlbbdifmjdpfiaa
set_option maxRecDepth 40000
open Go.RowKit
set_option linter.unusedVariables false

theorem info_i64 : (Try.prog.info? 2).map (fun i => (i.zero, i.size, i.bytes)) = some (some (.int .i64 0), 1, 8) := by kernel_rfl
theorem list_i64 {ops : Array Oper} {rest : List Oper} {o : Oper} {a : Act} {Q : Exit → Act → World → Prop} {W : World} {t : TypeId} {x : Int} (base : Nat) (v : Value) (k : Nat) (xs : List Value) (s z : Operand) (hgd : o.guard = none)
    (ho : o.op = .call { callee := .builtin .append, args := #[s, z], argTypes := #[33, 33] }) (hs : a.eval s = v) (hx : a.eval z = .slice (some ⟨W.heap.size, 0, none⟩) 1 1) (hown : W.ownsRow base 2 1 v k xs) (hk : k ≤ 10000000) (hb : base ≤ W.heap.size)
    (h : ∀ g cap w', w'.ownsRow base 2 1 (.slice (some ⟨g, 0, none⟩) (k + 1) cap) (k + 1) (xs ++ [.int .i64 x]) → W.grownBy w' v.ownBlock → g < w'.heap.size → wpList Try.prog ops Q rest (a.put o.dst (.slice (some ⟨g, 0, none⟩) (k + 1) cap)) w') :
    wpList Try.prog ops Q (o :: rest) a (W.alloc (.cells #[.int .i64 x] t)) := by
  obtain ⟨i0, hi, hz0, hz1, hz2⟩ := info_parts info_i64
  refine wpList_append_lies _ hgd s z 33 ho base 2 i0 (.int .i64 0) 1 8 Try.underlying33 hi hz0 hz1 hz2 rfl (by decide) v k xs hs (hown.alloc _) ⟨W.heap.size, 0, none⟩ 1 1 [.int .i64 x] hx rfl (newsOne _ _ _) ?_ (by decide) (by unfold maxLen; omega) (by omega) (by simp; omega) _ rfl ?_
  · intro u hu
    simp at hu
    subst hu; rfl
  · intro g cap w' h1 h2 _ h3
    exact h g cap w' h1 (grown_new h2) h3

/-- A row that the call makes: its first k are U. -/
def MadeI (base : Nat) (w wr : World) (v : Value) (k : Nat) (U : Nat → Int) : Prop := wr.ownsRow base 2 1 v k (vals U k) ∧ Below base w wr
theorem made_lit (w : World) (U : Nat → Int) {base : Nat} (hb : base ≤ w.heap.size) : MadeI base w (w.alloc (.cells #[] 2)) (.slice (some ⟨w.heap.size, 0, none⟩) 0 0) 0 U :=
  ⟨by simpa [vals] using World.ownsRow_lit (base := base) (size := 1) (e := 2) w #[] 0 hb (by simp [maxLen]) (by simp), (Below.refl _ _).alloc hb _⟩
theorem made_nil (w : World) (U : Nat → Int) {base : Nat} : MadeI base w w (.slice none 0 0) 0 U :=
  ⟨by simpa [vals] using World.ownsRow_nil w base 2 1, Below.refl _ _⟩
theorem made_on {base : Nat} {w wr w1 w2 : World} {v v' : Value} {k : Nat} {U : Nat → Int} (h : MadeI base w wr v k U) (hb : Below wr.heap.size wr w1) (hz : base ≤ wr.heap.size) (hown : w2.ownsRow base 2 1 v' (k + 1) (vals U k ++ [.int .i64 (U k)])) (hg : w1.grownBy w2 v.ownBlock) : MadeI base w w2 v' (k + 1) U := by
  obtain ⟨h1, h2⟩ := h
  have z1 := hb.size
  exact ⟨by rw [vals_succ]; exact hown, (h2.trans (hb.mono hz)).trans (grown_below hg (by omega) (own_block h1))⟩
theorem made_own {base : Nat} {w wr : World} {v : Value} {k : Nat} {U : Nat → Int} (h : MadeI base w wr v k U) : ∃ s cap, v = .slice s k cap ∧ OwnI base wr s k U := by
  have := own_OwnI (size := 1) (U := U) (by rw [Nat.mul_one]; exact h.1)
  rwa [Nat.mul_one] at this
theorem grown_row {W w2 : World} {base : Nat} {v : Value} {n : Nat} {xs : List Value} (ho : W.ownsRow base 2 1 v n xs) (hg : W.grownBy w2 v.ownBlock) {s : Option Addr} {m : Nat} {V : Nat → Int} (h : RowI W s m V) (hb : ∀ b o, s = some ⟨b, o, none⟩ → b < base) : RowI w2 s m V := fun j hj => by
  obtain ⟨b, o, e, hl, hc⟩ := h j hj
  have := hb b o e
  exact ⟨b, o, e, Nat.lt_of_lt_of_le hl hg.size, (hg.cell_far ⟨b, o + j, none⟩ hl (fun e => by have := own_block ho _ e.symm; simp only at this; omega)).trans hc⟩
end Go.Proofs.Ytlbbdifmjdpfiaa
