/-
What is proved: lists of bools that a call makes, one appended at a time.
-/
import Derived.Test.YtmoeoepinlcmdaaDoorBoN
import Derived.Deep.AppendLies
import Derived.Laws.OwnMore
namespace Go.Proofs.YtmoeoepinlcmdaaDoor
set_option maxRecDepth 40000
open Go.ChangeShapes Go.WideShapes Go.ChangeAt Go.RowKit
set_option linter.unusedVariables false
set_option linter.unusedSimpArgs false

theorem info_bool : (Tryd.prog.info? 4).map (fun i => (i.zero, i.size, i.bytes)) = some (some (.bool false), 1, 1) := by kernel_rfl
theorem list_bool {ops : Array Oper} {rest : List Oper} {o : Oper} {a : Act} {Q : Exit → Act → World → Prop} {W : World} {t : TypeId} {x : Bool} (base : Nat) (v : Value) (k : Nat) (xs : List Value) (s z : Operand) (hgd : o.guard = none)
    (ho : o.op = .call { callee := .builtin .append, args := #[s, z], argTypes := #[33, 33] }) (hs : a.eval s = v) (hx : a.eval z = .slice (some ⟨W.heap.size, 0, none⟩) 1 1) (hown : W.ownsRow base 4 1 v k xs) (hk : k ≤ 10000000) (hb : base ≤ W.heap.size)
    (h : ∀ g cap w', w'.ownsRow base 4 1 (.slice (some ⟨g, 0, none⟩) (k + 1) cap) (k + 1) (xs ++ [.bool x]) → W.grownBy w' v.ownBlock → g < w'.heap.size → wpList Tryd.prog ops Q rest (a.put o.dst (.slice (some ⟨g, 0, none⟩) (k + 1) cap)) w') :
    wpList Tryd.prog ops Q (o :: rest) a (W.alloc (.cells #[.bool x] t)) := by
  obtain ⟨i0, hi, hz0, hz1, hz2⟩ := info_parts info_bool
  refine wpList_append_lies _ hgd s z 33 ho base 4 i0 (.bool false) 1 1 Tryd.underlying33 hi hz0 hz1 hz2 rfl (by decide) v k xs hs (hown.alloc _) ⟨W.heap.size, 0, none⟩ 1 1 [.bool x] hx rfl (newsOne _ _ _) ?_ (by decide) (by unfold maxLen; omega) (by omega) (by simp; omega) _ rfl ?_
  · intro u hu
    simp at hu
    subst hu; rfl
  · intro g cap w' h1 h2 _ h3
    exact h g cap w' h1 (grown_new h2) h3
/-- A row of bools that the call makes: its first k are V. -/
def valB (V : Nat → Bool) (k : Nat) : List Value := (List.range k).map fun j => .bool (V j)
theorem valB_succ (V : Nat → Bool) (k : Nat) : valB V (k + 1) = valB V k ++ [.bool (V k)] := by simp [valB, List.range_succ]
def MadeB (base : Nat) (w wr : World) (v : Value) (k : Nat) (V : Nat → Bool) : Prop := wr.ownsRow base 4 1 v k (valB V k) ∧ Below base w wr
theorem madeB_lit (w : World) (V : Nat → Bool) {base : Nat} (hb : base ≤ w.heap.size) : MadeB base w (w.alloc (.cells #[] 4)) (.slice (some ⟨w.heap.size, 0, none⟩) 0 0) 0 V :=
  ⟨by simpa [valB] using World.ownsRow_lit (base := base) (size := 1) (e := 4) w #[] 0 hb (by simp [maxLen]) (by simp), (Below.refl _ _).alloc hb _⟩
theorem ownB_same {w w' : World} {base : Nat} {e : TypeId} {size : Nat} {v : Value} {n : Nat} {xs : List Value} (h : w.ownsRow base e size v n xs) (hs : Below w.heap.size w w') : w'.ownsRow base e size v n xs := by
  refine ⟨h.1, ?_⟩
  rcases h.2 with q | ⟨g, cap, cur, e1, hb, hg, r⟩
  · exact .inl q
  · exact .inr ⟨g, cap, cur, e1, hb, (hs.block g (Array.getElem?_eq_some_iff.1 hg).1).trans hg, r⟩
theorem MadeB.below {base : Nat} {w wr w' : World} {v : Value} {k : Nat} {V : Nat → Bool} (h : MadeB base w wr v k V) (hb : Below wr.heap.size wr w') (hz : base ≤ wr.heap.size) : MadeB base w w' v k V := ⟨ownB_same h.1 hb, h.2.trans (hb.mono hz)⟩
theorem madeB_on {base : Nat} {w wr w1 w2 : World} {v v' : Value} {k : Nat} {V : Nat → Bool} (h : MadeB base w wr v k V) (hb : Below wr.heap.size wr w1) (hz : base ≤ wr.heap.size) (hown : w2.ownsRow base 4 1 v' (k + 1) (valB V k ++ [.bool (V k)])) (hg : w1.grownBy w2 v.ownBlock) : MadeB base w w2 v' (k + 1) V := by
  obtain ⟨h1, h3⟩ := h
  have z1 := hb.size
  exact ⟨by rw [valB_succ]; exact hown, (h3.trans (hb.mono hz)).trans (grown_below hg (by omega) (own_block h1))⟩
theorem madeB_own {base : Nat} {w wr : World} {v : Value} {k : Nat} {V : Nat → Bool} (h : MadeB base w wr v k V) : ∃ s cap, v = .slice s k cap ∧ OwnB base wr s k V := by
  obtain ⟨h1, _⟩ := h
  rcases h1.2 with ⟨rfl, rfl⟩ | ⟨g, cap, cur, rfl, hb, hg, _, _, _, _⟩
  · exact ⟨none, 0, rfl, fun j hj => by omega⟩
  · refine ⟨some ⟨g, 0, none⟩, cap, rfl, fun j hj => ?_⟩
    exact ⟨g, rfl, hb, (Array.getElem?_eq_some_iff.1 hg).1, by rw [h1.cellAt j (by omega)]; simp [valB, hj], h1.frozenAt j⟩
end Go.Proofs.YtmoeoepinlcmdaaDoor
