/-
What is proved: lists of float64s on their way, whatever stands in them.
-/
import Derived.Test.YtffbpidldnbgaaaOwnF
import Derived.Test.YtffbpidldnbgaaaBeside
namespace Go.Proofs.Ytffbpidldnbgaaa
set_option maxRecDepth 40000
open Go.ChangeShapes Go.WideShapes Go.ChangeAt Go.RowKit
set_option linter.unusedVariables false
set_option linter.unusedSimpArgs false

def LF (base : Nat) (W : World) (g k cap : Nat) (V : Nat → Option Nat) : Prop := ∃ xs, W.ownsRow base 25 1 (.slice (some ⟨g, 0, none⟩) k cap) k xs ∧ FlRow xs k V
theorem LF.at {base : Nat} {W : World} {g k cap : Nat} {V : Nat → Option Nat} (h : LF base W g k cap V) : base ≤ g ∧ g < W.heap.size := by
  obtain ⟨xs, ho, _⟩ := h
  exact ho.lt g rfl
theorem LF.keep {base : Nat} {W W' : World} {g k cap : Nat} {V : Nat → Option Nat} (h : LF base W g k cap V) (e : W'.heap[g]? = W.heap[g]?) : LF base W' g k cap V := by
  obtain ⟨xs, ho, hf⟩ := h
  refine ⟨xs, ⟨ho.1, ?_⟩, hf⟩
  rcases ho.2 with q | ⟨g', cap', cur, e1, hb, hg, r⟩
  · exact .inl q
  · cases e1
    exact .inr ⟨g, cap, cur, rfl, hb, e.trans hg, r⟩
theorem LF.below {base : Nat} {W W' : World} {g k cap : Nat} {V : Nat → Option Nat} (h : LF base W g k cap V) (hb : Below W.heap.size W W') : LF base W' g k cap V := h.keep (hb.block g h.at.2)
theorem LF.row {base : Nat} {W : World} {g k cap : Nat} {V : Nat → Option Nat} (h : LF base W g k cap V) : RowF W (some ⟨g, 0, none⟩) k V := by
  obtain ⟨xs, ho, hf⟩ := h
  obtain ⟨s, c, e, hO⟩ := madeF_own (w := W) (base := base) ⟨ho, hf, Below.refl _ _⟩
  cases e
  exact hO.row
theorem LF.cap {base : Nat} {W : World} {g k cap : Nat} {V : Nat → Option Nat} (h : LF base W g k cap V) : k ≤ cap := by
  obtain ⟨xs, ho, _⟩ := h
  rcases ho.2 with ⟨e1, e2⟩ | ⟨g', cap', cur, e1, _, _, hc, _⟩
  · cases e1
  · cases e1; exact hc
theorem LF.lit (W : World) (base : Nat) (V : Nat → Option Nat) (hb : base ≤ W.heap.size) : LF base (W.alloc (.cells #[] 25)) W.heap.size 0 0 V :=
  ⟨[], by simpa using World.ownsRow_lit (base := base) (size := 1) (e := 25) W #[] 0 hb (by simp [maxLen]) (by simp), rfl, fun j hj => by omega⟩
theorem LF.two (W : World) (base x y : Nat) (V : Nat → Option Nat) (hb : base ≤ W.heap.size) (hx : Fl x (V 0)) (hy : Fl y (V 1)) : LF base (W.alloc (.cells #[.float .f64 x, .float .f64 y] 25)) W.heap.size 2 2 V :=
  ⟨[.float .f64 x, .float .f64 y], by simpa using World.ownsRow_lit (base := base) (size := 1) (e := 25) W #[.float .f64 x, .float .f64 y] 2 hb (by simp [maxLen]) (by simp), rfl, fun j hj => by
    rcases (by omega : j = 0 ∨ j = 1) with rfl | rfl
    · exact ⟨x, rfl, hx⟩
    · exact ⟨y, rfl, hy⟩⟩
theorem list_LF {ops : Array Oper} {rest : List Oper} {o : Oper} {a : Act} {Q : Exit → Act → World → Prop} {W : World} {t : TypeId} {x : Nat} (base g k cap : Nat) (V : Nat → Option Nat) (s z : Operand) (hgd : o.guard = none)
    (ho : o.op = .call { callee := .builtin .append, args := #[s, z], argTypes := #[24, 24] }) (hs : a.eval s = .slice (some ⟨g, 0, none⟩) k cap) (hx : a.eval z = .slice (some ⟨W.heap.size, 0, none⟩) 1 1) (hL : LF base W g k cap V) (hf : Fl x (V k)) (hk : k ≤ 10000000)
    (h : ∀ g' cap' w', LF base w' g' (k + 1) cap' V → Below base W w' → (g' = g ∨ W.heap.size ≤ g') → (∀ q, q < W.heap.size → q ≠ g → w'.heap[q]? = W.heap[q]?) → wpList Try.prog ops Q rest (a.put o.dst (.slice (some ⟨g', 0, none⟩) (k + 1) cap')) w') :
    wpList Try.prog ops Q (o :: rest) a (W.alloc (.cells #[.float .f64 x] t)) := by
  obtain ⟨xs, hown, hr⟩ := hL
  have hb : base ≤ W.heap.size := by have := hown.lt g rfl; omega
  obtain ⟨i0, hi, hz0, hz1, hz2⟩ := info_parts info_f64
  refine wpList_append_lies _ hgd s z 24 ho base 25 i0 (.float .f64 0) 1 8 Try.underlying24 hi hz0 hz1 hz2 rfl (by decide) (.slice (some ⟨g, 0, none⟩) k cap) k xs hs (hown.alloc _) ⟨W.heap.size, 0, none⟩ 1 1 [.float .f64 x] hx rfl (newsOne _ _ _) ?_ (by decide) (by unfold maxLen; omega) (by omega) (by simp; omega) _ rfl ?_
  · intro u hu
    simp at hu
    subst hu; rfl
  · intro g' cap' w' h1 h2 h4 h3
    refine h g' cap' w' ⟨_, h1, hr.snoc hf⟩ (grown_below (grown_new h2) hb (own_block hown)) ?_ (fun q hq hn => (grown_new h2).block q hq (fun e => hn (by cases e; rfl)))
    rcases h4 with h4 | h4
    · left; cases h4; rfl
    · right; rw [h4]; simp
def LA (base : Nat) (W : World) (g k cap : Nat) : Prop := ∃ V, LF base W g k cap V
theorem LA.below {base : Nat} {W W' : World} {g k cap : Nat} (h : LA base W g k cap) (hb : Below W.heap.size W W') : LA base W' g k cap := by
  obtain ⟨V, h⟩ := h
  exact ⟨V, h.below hb⟩
theorem LA.beside {base r : Nat} {W W' : World} {g k cap : Nat} (h : LA base W g k cap) (hb : Beside r W W') (hr : r < base) : LA base W' g k cap := by
  obtain ⟨V, h⟩ := h
  exact ⟨V, h.keep (hb.2.2.2.2 g h.at.2 (by have := h.at.1; omega))⟩
theorem LA.cap {base : Nat} {W : World} {g k cap : Nat} (h : LA base W g k cap) : k ≤ cap := by
  obtain ⟨V, h⟩ := h
  exact h.cap
theorem LF.put {base : Nat} {W : World} {g k cap : Nat} {V : Nat → Option Nat} (h : LF base W g k cap V) (o : Option Nat) : LF base W g k cap (fun j => if j = k then o else V j) := by
  obtain ⟨xs, ho, hl, hf⟩ := h
  refine ⟨xs, ho, hl, fun j hj => ?_⟩
  obtain ⟨x, h1, h2⟩ := hf j hj
  refine ⟨x, h1, ?_⟩
  show Fl x (if j = k then o else V j)
  rw [if_neg (by omega)]
  exact h2
theorem list_LA {ops : Array Oper} {rest : List Oper} {o : Oper} {a : Act} {Q : Exit → Act → World → Prop} {W : World} {t : TypeId} {x : Nat} {ox : Option Nat} (base g k cap : Nat) (s z : Operand) (hgd : o.guard = none)
    (ho : o.op = .call { callee := .builtin .append, args := #[s, z], argTypes := #[24, 24] }) (hs : a.eval s = .slice (some ⟨g, 0, none⟩) k cap) (hx : a.eval z = .slice (some ⟨W.heap.size, 0, none⟩) 1 1) (hL : LA base W g k cap) (hf : Fl x ox) (hk : k ≤ 10000000)
    (h : ∀ g' cap' w', LA base w' g' (k + 1) cap' → Below base W w' → wpList Try.prog ops Q rest (a.put o.dst (.slice (some ⟨g', 0, none⟩) (k + 1) cap')) w') :
    wpList Try.prog ops Q (o :: rest) a (W.alloc (.cells #[.float .f64 x] t)) := by
  obtain ⟨V, hL⟩ := hL
  refine list_LF base g k cap (fun j => if j = k then ox else V j) s z hgd ho hs hx (hL.put ox) ?_ hk ?_
  · show Fl x (if k = k then ox else V k)
    rw [if_pos rfl]; exact hf
  · intro g' cap' w' h1 h2 _ _
    exact h g' cap' w' ⟨_, h1⟩ h2
def lenF : Value → Nat
  | .slice _ n _ => n
  | _ => 0
end Go.Proofs.Ytffbpidldnbgaaa
