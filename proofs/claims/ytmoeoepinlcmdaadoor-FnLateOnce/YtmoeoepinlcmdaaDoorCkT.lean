/-
What is proved: a list of clocks and a list of notes that grow side by side.
-/
import Derived.Test.YtmoeoepinlcmdaaDoorCkP
namespace Go.Proofs.YtmoeoepinlcmdaaDoor
set_option maxRecDepth 40000
open Go.ChangeShapes Go.WideShapes Go.ChangeAt Go.RowKit
set_option linter.unusedVariables false
set_option linter.unusedSimpArgs false

theorem own_keep {w w' : World} {base : Nat} {e : TypeId} {size : Nat} {v : Value} {n : Nat} {xs : List Value} (h : w.ownsRow base e size v n xs) (hs : ∀ g, v.ownBlock = some g → w'.heap[g]? = w.heap[g]?) : w'.ownsRow base e size v n xs := by
  refine ⟨h.1, ?_⟩
  rcases h.2 with q | ⟨g, cap, cur, e1, hb, hg, r⟩
  · exact .inl q
  · exact .inr ⟨g, cap, cur, e1, hb, (hs g (by rw [e1]; rfl)).trans hg, r⟩
/-- The first k clocks and the notes l, each in memory of its own from the world wB on. -/
def TwoC (wB wr : World) (v u : Value) (Z : Nat → Int × Bool) (k : Nat) (l : List (Int × Int)) : Prop := wr.ownsRow wB.heap.size 29 2 v k (ckL Z k) ∧ wr.ownsRow wB.heap.size 36 2 u l.length (ntC l) ∧ (∀ g, v.ownBlock = some g → u.ownBlock = some g → False) ∧ Below wB.heap.size wB wr
theorem TwoC.below {wB wr w' : World} {v u : Value} {Z : Nat → Int × Bool} {k : Nat} {l : List (Int × Int)} (h : TwoC wB wr v u Z k l) (hb : Below wr.heap.size wr w') : TwoC wB w' v u Z k l :=
  ⟨own_keep h.1 (fun g hg => hb.block g (h.1.lt g hg).2), own_keep h.2.1 (fun g hg => hb.block g (h.2.1.lt g hg).2), h.2.2.1, h.2.2.2.trans (hb.mono h.2.2.2.size)⟩
/-- A block of the walk's own that neither list lies in is written. -/
theorem TwoC.set {wB wr : World} {v u : Value} {Z : Nat → Int × Bool} {k : Nat} {l : List (Int × Int)} {p o : Nat} {x : Value} (h : TwoC wB wr v u Z k l) (h1 : v.ownBlock ≠ some p) (h2 : u.ownBlock ≠ some p) (hp : wB.heap.size ≤ p) : TwoC wB (wr.setCell ⟨p, o, none⟩ x) v u Z k l :=
  ⟨own_keep h.1 (fun g hg => set_block (h.1.lt g hg).2 (fun e => h1 (e ▸ hg))), own_keep h.2.1 (fun g hg => set_block (h.2.1.lt g hg).2 (fun e => h2 (e ▸ hg))), h.2.2.1, h.2.2.2.trans ((Beside.setCell p wr o x).below hp h.2.2.2.size)⟩
theorem TwoC.clock {wB wr w3 : World} {v u : Value} {Z : Nat → Int × Bool} {k g cap : Nat} {l : List (Int × Int)} (h : TwoC wB wr v u Z k l) (hown : w3.ownsRow wB.heap.size 29 2 (.slice (some ⟨g, 0, none⟩) (k + 1) cap) (k + 1) (ckL Z k ++ [.int .i64 (Z k).1, .bool (Z k).2])) (hg : wr.grownBy w3 v.ownBlock) (hat : v.ownBlock = some g ∨ wr.heap.size < g) : TwoC wB w3 (.slice (some ⟨g, 0, none⟩) (k + 1) cap) u Z (k + 1) l := by
  obtain ⟨h1, h2, h3, h4⟩ := h
  refine ⟨hown, own_keep h2 (fun q e => hg.block q (h2.lt q e).2 (fun z => h3 q z.symm e)), fun q e1 e2 => ?_, h4.trans (grown_below hg h4.size (own_block h1))⟩
  have e : g = q := by simpa [Value.ownBlock] using e1
  subst e
  rcases hat with z | z
  · exact h3 g z e2
  · have := (h2.lt g e2).2; omega
theorem TwoC.note {wB wr w3 : World} {v u : Value} {Z : Nat → Int × Bool} {k g cap : Nat} {l : List (Int × Int)} {a b : Int} (h : TwoC wB wr v u Z k l) (hown : w3.ownsRow wB.heap.size 36 2 (.slice (some ⟨g, 0, none⟩) (l.length + 1) cap) (l.length + 1) (ntC l ++ [.int .i64 a, .int .i64 b])) (hg : wr.grownBy w3 u.ownBlock) (hat : u.ownBlock = some g ∨ wr.heap.size < g) : TwoC wB w3 v (.slice (some ⟨g, 0, none⟩) (l.length + 1) cap) Z k (l ++ [(a, b)]) := by
  obtain ⟨h1, h2, h3, h4⟩ := h
  refine ⟨own_keep h1 (fun q e => hg.block q (h1.lt q e).2 (fun z => h3 q e z.symm)), ?_, fun q e1 e2 => ?_, h4.trans (grown_below hg h4.size (own_block h2))⟩
  · rw [ntC_app, List.length_append]; exact hown
  · have e : g = q := by simpa [Value.ownBlock] using e2
    subst e
    rcases hat with z | z
    · exact h3 g e1 z
    · have := (h1.lt g e1).2; omega
end Go.Proofs.YtmoeoepinlcmdaaDoor
