/-
What is proved: two lists of int64s on their way of being drawn, each in memory of its own.
-/
import Derived.Test.YtdpghhgfkhlliaaDrawZ
import Derived.Deep.RegionHeld3
import Derived.Deep.DeepCutAuto
namespace Go.Proofs.Ytdpghhgfkhlliaa
set_option maxRecDepth 40000
open Go.RowKit
set_option linter.unusedVariables false
set_option linter.unusedSimpArgs false

/-- Two lists on their way of being drawn by the reader in block r. -/
def Two (r : Nat) (s : Option Addr) (n c : Nat) (wB wr : World) (v u : Value) (l m : List Int) : Prop :=
  wr.ownsRow wB.heap.size 2 1 v l.length (cellsOf l) ∧ wr.ownsRow wB.heap.size 2 1 u m.length (cellsOf m) ∧ (∀ g, v.ownBlock = some g → u.ownBlock = some g → False) ∧ Beside r wB wr ∧ ∃ p, Rd wr r s n c p
theorem two_read {r : Nat} {s : Option Addr} {n c p : Nat} {wB wr w2 : World} {v u : Value} {l m : List Int} (hr : r < wB.heap.size) (h : Two r s n c wB wr v u l m) (b : Beside r wr w2) (R : Rd w2 r s n c p) : Two r s n c wB w2 v u l m := by
  obtain ⟨h1, h2, h3, h4, _⟩ := h
  exact ⟨drawn_read hr h1 b, drawn_read hr h2 b, h3, h4.trans b, p, R⟩
theorem two_alloc {r : Nat} {s : Option Addr} {n c : Nat} {wB wr : World} {v u : Value} {l m : List Int} (h : Two r s n c wB wr v u l m) (ob : Obj) : Two r s n c wB (wr.alloc ob) v u l m := by
  obtain ⟨h1, h2, h3, h4, p, R⟩ := h
  exact ⟨h1.alloc _, h2.alloc _, h3, h4.trans (Beside.of (below0 _ _)), p, R.below (below0 _ _)⟩
theorem own_far {W w3 : World} {b : Nat} {v u : Value} {k : Nat} {xs : List Value} (hu : W.ownsRow b 2 1 u k xs) (hd : ∀ g, v.ownBlock = some g → u.ownBlock = some g → False) (hg : W.grownBy w3 v.ownBlock) : w3.ownsRow b 2 1 u k xs :=
  own_same hu fun g e => hg.block g (hu.lt g e).2 (fun q => hd g q.symm e)
theorem two_on1 {r : Nat} {s : Option Addr} {n c : Nat} {wB wr w3 : World} {v u : Value} {l m : List Int} {g cap : Nat} {x : Int} (hr : r < wB.heap.size) (h : Two r s n c wB wr v u l m) (hown : w3.ownsRow wB.heap.size 2 1 (.slice (some ⟨g, 0, none⟩) (l.length + 1) cap) (l.length + 1) (cellsOf l ++ [.int .i64 x])) (hg : wr.grownBy w3 v.ownBlock) (hat : v.ownBlock = some g ∨ wr.heap.size < g) : Two r s n c wB w3 (.slice (some ⟨g, 0, none⟩) (l.length + 1) cap) u (l ++ [x]) m := by
  obtain ⟨h1, h2, h3, h4, p, R⟩ := h
  have z := h4.2.2.2.1
  have g1 : Below wB.heap.size wr w3 := grown_below hg z (own_block h1)
  refine ⟨by rw [cellsOf_snoc]; simpa using hown, own_far h2 h3 hg, fun k e1 e2 => ?_, h4.on g1, p, R.below' (g1.mono (by omega))⟩
  have e : g = k := by simpa [Value.ownBlock] using e1
  subst e
  rcases hat with q | q
  · exact h3 g q e2
  · have := (h2.lt g e2).2; omega
theorem two_on2 {r : Nat} {s : Option Addr} {n c : Nat} {wB wr w3 : World} {v u : Value} {l m : List Int} {g cap : Nat} {x : Int} (hr : r < wB.heap.size) (h : Two r s n c wB wr v u l m) (hown : w3.ownsRow wB.heap.size 2 1 (.slice (some ⟨g, 0, none⟩) (m.length + 1) cap) (m.length + 1) (cellsOf m ++ [.int .i64 x])) (hg : wr.grownBy w3 u.ownBlock) (hat : u.ownBlock = some g ∨ wr.heap.size < g) : Two r s n c wB w3 v (.slice (some ⟨g, 0, none⟩) (m.length + 1) cap) l (m ++ [x]) := by
  obtain ⟨h1, h2, h3, h4, p, R⟩ := h
  have z := h4.2.2.2.1
  have g1 : Below wB.heap.size wr w3 := grown_below hg z (own_block h2)
  refine ⟨own_far h1 (fun k e1 e2 => h3 k e2 e1) hg, by rw [cellsOf_snoc]; simpa using hown, fun k e1 e2 => ?_, h4.on g1, p, R.below' (g1.mono (by omega))⟩
  have e : g = k := by simpa [Value.ownBlock] using e2
  subst e
  rcases hat with q | q
  · exact h3 g e1 q
  · have := (h1.lt g e1).2; omega
/-- A list that was drawn, in a block of its own. -/
def InBlock (b : Nat) (w : World) (v : Value) (l : List Int) (g cap : Nat) : Prop := v = .slice (some ⟨g, 0, none⟩) l.length cap ∧ b ≤ g ∧ g < w.heap.size ∧ (∀ j, j < l.length → w.cell? ⟨g, j, none⟩ = some (.int .i64 (nthI l j))) ∧ (∀ j, w.frozen? ⟨g, j, none⟩ = false)
theorem in_block {b : Nat} {w : World} {v : Value} {l : List Int} (h : w.ownsRow b 2 1 v l.length (cellsOf l)) (hl : 0 < l.length) : ∃ g cap, InBlock b w v l g cap := by
  obtain ⟨g, cap, hu, g0, g1⟩ := h.form (by omega)
  refine ⟨g, cap, hu, g0, g1, fun j hj => ?_, fun j => ?_⟩
  · rw [hu] at h
    rw [h.cellAt j (by omega)]
    simp [cellsOf, nthI, hj]
  · rw [hu] at h
    exact h.frozenAt j
theorem InBlock.row {b : Nat} {w : World} {v : Value} {l : List Int} {g cap : Nat} (h : InBlock b w v l g cap) : RowI w (some ⟨g, 0, none⟩) l.length (nthI l) := fun j hj => ⟨g, 0, rfl, h.2.2.1, by rw [Nat.zero_add]; exact h.2.2.2.1 j hj⟩
theorem two_ne {r : Nat} {s : Option Addr} {n c : Nat} {wB wr : World} {v u : Value} {l m : List Int} {g g' cap cap' : Nat} (h : Two r s n c wB wr v u l m) (h1 : InBlock wB.heap.size wr v l g cap) (h2 : InBlock wB.heap.size wr u m g' cap') : g ≠ g' := fun e => by
  subst e
  exact h.2.2.1 g (by rw [h1.1]; rfl) (by rw [h2.1]; rfl)
theorem row_set {w : World} {g g' : Nat} {m : Nat} {V : Nat → Int} {x : Int} (h : RowI w (some ⟨g, 0, none⟩) m V) (ne : g ≠ g') : RowI (w.setCell ⟨g', 0, none⟩ (.int .i64 x)) (some ⟨g, 0, none⟩) m V := fun j hj => by
  obtain ⟨b, o, e, hl, hc⟩ := h j hj
  cases e
  exact ⟨g, 0, rfl, by simpa using hl, ((Beside.setCell g' w 0 _).cell (p := ⟨g, 0 + j, none⟩) hl ne).trans hc⟩
theorem row_put {w : World} {g : Nat} {m : Nat} {V : Nat → Int} {x : Int} (h : RowI w (some ⟨g, 0, none⟩) m V) : RowI (w.setCell ⟨g, 0, none⟩ (.int .i64 x)) (some ⟨g, 0, none⟩) m (fun j => if j = 0 then x else V j) := fun j hj => by
  obtain ⟨b, o, e, hl, hc⟩ := h j hj
  cases e
  refine ⟨g, 0, rfl, by simpa using hl, ?_⟩
  rw [Nat.zero_add] at hc ⊢
  by_cases q : j = 0
  · subst q
    simp [go_sem, hc]
  · simp [go_sem, hc, q]
end Go.Proofs.Ytdpghhgfkhlliaa
