/-
What is proved: one float64 appended to a row that the call has made; how such a row goes on.
-/
import Derived.Test.YtffbpidldnbgaaaF64M
import Derived.Test.YtffbpidldnbgaaaOwn
namespace Go.Proofs.Ytffbpidldnbgaaa
set_option maxRecDepth 40000
open Go.RowKit
set_option linter.unusedVariables false

theorem info_f64 : (Try.prog.info? 25).map (fun i => (i.zero, i.size, i.bytes)) = some (some (.float .f64 0), 1, 8) := by kernel_rfl
theorem list_f64 {ops : Array Oper} {rest : List Oper} {o : Oper} {a : Act} {Q : Exit → Act → World → Prop} {W : World} {t : TypeId} {x : Nat} (base : Nat) (v : Value) (k : Nat) (xs : List Value) (s z : Operand) (hgd : o.guard = none)
    (ho : o.op = .call { callee := .builtin .append, args := #[s, z], argTypes := #[24, 24] }) (hs : a.eval s = v) (hx : a.eval z = .slice (some ⟨W.heap.size, 0, none⟩) 1 1) (hown : W.ownsRow base 25 1 v k xs) (hk : k ≤ 10000000) (hb : base ≤ W.heap.size)
    (h : ∀ g cap w', w'.ownsRow base 25 1 (.slice (some ⟨g, 0, none⟩) (k + 1) cap) (k + 1) (xs ++ [.float .f64 x]) → W.grownBy w' v.ownBlock → g < w'.heap.size → wpList Try.prog ops Q rest (a.put o.dst (.slice (some ⟨g, 0, none⟩) (k + 1) cap)) w') :
    wpList Try.prog ops Q (o :: rest) a (W.alloc (.cells #[.float .f64 x] t)) := by
  obtain ⟨i0, hi, hz0, hz1, hz2⟩ := info_parts info_f64
  refine wpList_append_lies _ hgd s z 24 ho base 25 i0 (.float .f64 0) 1 8 Try.underlying24 hi hz0 hz1 hz2 rfl (by decide) v k xs hs (hown.alloc _) ⟨W.heap.size, 0, none⟩ 1 1 [.float .f64 x] hx rfl (newsOne _ _ _) ?_ (by decide) (by unfold maxLen; omega) (by omega) (by simp; omega) _ rfl ?_
  · intro u hu
    simp at hu
    subst hu; rfl
  · intro g cap w' h1 h2 _ h3
    exact h g cap w' h1 (grown_new h2) h3
/-- Float64s that stand for V. -/
def FlRow (xs : List Value) (k : Nat) (V : Nat → Option Nat) : Prop := xs.length = k ∧ ∀ j, j < k → ∃ x, xs[j]? = some (.float .f64 x) ∧ Fl x (V j)
theorem FlRow.snoc {xs : List Value} {k : Nat} {V : Nat → Option Nat} {x : Nat} (h : FlRow xs k V) (hx : Fl x (V k)) : FlRow (xs ++ [.float .f64 x]) (k + 1) V := by
  refine ⟨by simp [h.1], fun j hj => ?_⟩
  by_cases e : j = k
  · subst e
    exact ⟨x, by simp [h.1], hx⟩
  · obtain ⟨y, h1, h2⟩ := h.2 j (by omega)
    exact ⟨y, by rw [List.getElem?_append_left (by rw [h.1]; omega)]; exact h1, h2⟩
/-- A row of float64s that the call makes: its first k stand for V. -/
def MadeF (base : Nat) (w wr : World) (v : Value) (k : Nat) (xs : List Value) (V : Nat → Option Nat) : Prop := wr.ownsRow base 25 1 v k xs ∧ FlRow xs k V ∧ Below base w wr
theorem madeF_lit (w : World) (V : Nat → Option Nat) {base : Nat} (hb : base ≤ w.heap.size) : MadeF base w (w.alloc (.cells #[] 25)) (.slice (some ⟨w.heap.size, 0, none⟩) 0 0) 0 [] V :=
  ⟨by simpa using World.ownsRow_lit (base := base) (size := 1) (e := 25) w #[] 0 hb (by simp [maxLen]) (by simp), ⟨rfl, fun j hj => by omega⟩, (Below.refl _ _).alloc hb _⟩
theorem madeF_on {base : Nat} {w wr w1 w2 : World} {v v' : Value} {k : Nat} {xs : List Value} {V : Nat → Option Nat} {x : Nat} (h : MadeF base w wr v k xs V) (hb : Below wr.heap.size wr w1) (hz : base ≤ wr.heap.size) (hx : Fl x (V k)) (hown : w2.ownsRow base 25 1 v' (k + 1) (xs ++ [.float .f64 x])) (hg : w1.grownBy w2 v.ownBlock) : MadeF base w w2 v' (k + 1) (xs ++ [.float .f64 x]) V := by
  obtain ⟨h1, h2, h3⟩ := h
  have z1 := hb.size
  exact ⟨hown, h2.snoc hx, (h3.trans (hb.mono hz)).trans (grown_below hg (by omega) (own_block h1))⟩
theorem madeF_own {base : Nat} {w wr : World} {v : Value} {k : Nat} {xs : List Value} {V : Nat → Option Nat} (h : MadeF base w wr v k xs V) : ∃ s cap, v = .slice s k cap ∧ OwnF base wr s k V := by
  obtain ⟨h1, h2, _⟩ := h
  rcases h1.2 with ⟨rfl, rfl⟩ | ⟨g, cap, cur, rfl, hb, hg, _, _, _, _⟩
  · exact ⟨none, 0, rfl, fun j hj => by omega⟩
  · refine ⟨some ⟨g, 0, none⟩, cap, rfl, fun j hj => ?_⟩
    obtain ⟨x, e1, e2⟩ := h2.2 j hj
    exact ⟨g, x, rfl, hb, (Array.getElem?_eq_some_iff.1 hg).1, by rw [h1.cellAt j (by omega), e1], e2, h1.frozenAt j⟩
end Go.Proofs.Ytffbpidldnbgaaa
