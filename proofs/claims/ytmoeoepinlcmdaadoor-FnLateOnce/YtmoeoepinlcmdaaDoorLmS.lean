/-
What is proved: limits and clocks that a draw puts together, side by side, their numbers any: kept, appended to, changed.
-/
import Derived.Test.YtmoeoepinlcmdaaDoorCkL
import Derived.Test.YtmoeoepinlcmdaaDoorLst
import Derived.Test.YtmoeoepinlcmdaaDoorRdO
import Derived.Deep.AppendLies
import Derived.Laws.OwnMore

namespace Go.Proofs.YtmoeoepinlcmdaaDoor
set_option maxRecDepth 40000
open Go.ChangeShapes Go.WideShapes Go.ChangeAt Go.RowKit
set_option linter.unusedVariables false
set_option linter.unusedSimpArgs false

def isI (v : Value) : Prop := ∃ x : Int, v = .int .i64 x
def isB (v : Value) : Prop := ∃ x : Bool, v = .bool x
def RowsP (K1 K2 : Value → Prop) (xs : List Value) (k : Nat) : Prop := ∀ j, j < k → ∃ a b, xs[j * 2]? = some a ∧ xs[j * 2 + 1]? = some b ∧ K1 a ∧ K2 b
theorem RowsP.nil (K1 K2 : Value → Prop) (xs : List Value) : RowsP K1 K2 xs 0 := fun j hj => by omega
theorem RowsP.app {K1 K2 : Value → Prop} {xs : List Value} {k : Nat} {a b : Value} (h : RowsP K1 K2 xs k) (hl : xs.length = k * 2) (ha : K1 a) (hb : K2 b) : RowsP K1 K2 (xs ++ [a, b]) (k + 1) := fun j hj => by
  by_cases q : j = k
  · subst q
    exact ⟨a, b, by rw [List.getElem?_append_right (by omega)]; simp [hl], by rw [List.getElem?_append_right (by omega)]; simp [hl], ha, hb⟩
  · obtain ⟨x, y, e1, e2, e3, e4⟩ := h j (by omega)
    exact ⟨x, y, by rw [List.getElem?_append_left (by omega)]; exact e1, by rw [List.getElem?_append_left (by omega)]; exact e2, e3, e4⟩
theorem RowsP.set0 {K1 K2 : Value → Prop} {xs : List Value} {k i : Nat} {v : Value} (h : RowsP K1 K2 xs k) (hi : i = 0 ∧ K1 v ∨ i = 1 ∧ K2 v) : RowsP K1 K2 (xs.set i v) k := fun j hj => by
  obtain ⟨x, y, e1, e2, e3, e4⟩ := h j hj
  have l1 : j * 2 < xs.length := (List.getElem?_eq_some_iff.1 e1).1
  have l2 : j * 2 + 1 < xs.length := (List.getElem?_eq_some_iff.1 e2).1
  rcases hi with ⟨rfl, hv⟩ | ⟨rfl, hv⟩
  · by_cases q : j = 0
    · subst q
      exact ⟨v, y, List.getElem?_set_self (by omega), by simpa using e2, hv, e4⟩
    · exact ⟨x, y, by rw [List.getElem?_set_ne (by omega)]; exact e1, by rw [List.getElem?_set_ne (by omega)]; exact e2, e3, e4⟩
  · by_cases q : j = 0
    · subst q
      exact ⟨x, v, by simpa using e1, List.getElem?_set_self (by omega), e3, hv⟩
    · exact ⟨x, y, by rw [List.getElem?_set_ne (by omega)]; exact e1, by rw [List.getElem?_set_ne (by omega)]; exact e2, e3, e4⟩
def LmS (w0 W : World) (r B : Nat) (s : Option Addr) (n c : Nat) (lv : Value) (nl : Nat) (cv : Value) (nc p : Nat) : Prop :=
  Rd W r s n c p ∧ Beside r w0 W ∧ r < B ∧ w0.heap.size ≤ B ∧ B ≤ W.heap.size ∧ (∃ xs, W.ownsRow B 38 2 lv nl xs ∧ RowsP isI isI xs nl) ∧ ∃ ys, W.ownsRow B 29 2 cv nc ys ∧ RowsP isI isB ys nc
theorem own_besL {w w' : World} {base r : Nat} {e : TypeId} {size : Nat} {v : Value} {n : Nat} {xs : List Value} (h : w.ownsRow base e size v n xs) (hb : Beside r w w') (hr : ∀ g, v.ownBlock = some g → g ≠ r) : w'.ownsRow base e size v n xs := by
  refine ⟨h.1, ?_⟩
  rcases h.2 with q | ⟨g, cap, cur, e1, hb2, hg, q⟩
  · exact .inl q
  · exact .inr ⟨g, cap, cur, e1, hb2, (hb.2.2.2.2 g (Array.getElem?_eq_some_iff.1 hg).1 (hr g (by rw [e1]; rfl))).trans hg, q⟩
theorem own_tyL {w : World} {base : Nat} {e : TypeId} {size : Nat} {v : Value} {n : Nat} {xs : List Value} (h : w.ownsRow base e size v n xs) {g : Nat} (hg : v.ownBlock = some g) : ∃ cur, w.heap[g]? = some (.cells cur e (0, 0)) := by
  rcases h.2 with ⟨q, _⟩ | ⟨g', cap, cur, e1, _, hg', _⟩
  · rw [q] at hg; cases hg
  · rw [e1] at hg; cases hg; exact ⟨cur, hg'⟩
theorem own_grL {w w' : World} {b1 b2 : Nat} {e1 e2 : TypeId} {s1 s2 : Nat} {v1 v2 : Value} {n1 n2 : Nat} {x1 x2 : List Value} (h1 : w.ownsRow b1 e1 s1 v1 n1 x1) (h2 : w.ownsRow b2 e2 s2 v2 n2 x2) (ne : e1 ≠ e2) (hg : w.grownBy w' v1.ownBlock) : w'.ownsRow b2 e2 s2 v2 n2 x2 := by
  refine ⟨h2.1, ?_⟩
  rcases h2.2 with q | ⟨g, cap, cur, e, hb, hgg, q⟩
  · exact .inl q
  · refine .inr ⟨g, cap, cur, e, hb, (hg.block g (Array.getElem?_eq_some_iff.1 hgg).1 (fun e' => ?_)).trans hgg, q⟩
    obtain ⟨c1, hc1⟩ := own_tyL h1 e'.symm
    rw [hgg] at hc1
    cases hc1
    exact ne rfl
theorem LmS.call {w0 W : World} {r B : Nat} {s : Option Addr} {n c : Nat} {lv : Value} {nl : Nat} {cv : Value} {nc p : Nat} {W' : World} {p' : Nat} (h : LmS w0 W r B s n c lv nl cv nc p) (R : Rd W' r s n c p') (b : Beside r W W') : LmS w0 W' r B s n c lv nl cv nc p' := by
  obtain ⟨h1, h2, h3, h4, h5, ⟨xs, h6, h7⟩, ys, h8, h9⟩ := h
  exact ⟨R, h2.trans b, h3, h4, Nat.le_trans h5 b.2.2.2.1, ⟨xs, own_besL h6 b (fun g hg => by have := own_block h6 g hg; omega), h7⟩, ys, own_besL h8 b (fun g hg => by have := own_block h8 g hg; omega), h9⟩
theorem LmS.below {w0 W : World} {r B : Nat} {s : Option Addr} {n c : Nat} {lv : Value} {nl : Nat} {cv : Value} {nc p : Nat} {W' : World} (h : LmS w0 W r B s n c lv nl cv nc p) (b : Below W.heap.size W W') : LmS w0 W' r B s n c lv nl cv nc p := by
  obtain ⟨h1, h2, h3, h4, h5, ⟨xs, h6, h7⟩, ys, h8, h9⟩ := h
  exact ⟨h1.below b, h2.later b, h3, h4, Nat.le_trans h5 b.size, ⟨xs, own_besL h6 (Beside.of (r := W.heap.size) b) (fun g hg => by have := (h6.lt g hg).2; omega), h7⟩, ys, own_besL h8 (Beside.of (r := W.heap.size) b) (fun g hg => by have := (h8.lt g hg).2; omega), h9⟩
/-- A block elsewhere is changed. -/
theorem LmS.other {w0 W : World} {r B : Nat} {s : Option Addr} {n c : Nat} {lv : Value} {nl : Nat} {cv : Value} {nc p : Nat} {W' : World} {g : Nat} (h : LmS w0 W r B s n c lv nl cv nc p) (b : Beside g W W') (hB : B ≤ g) (h1 : ∀ k, lv.ownBlock = some k → k ≠ g) (h2 : ∀ k, cv.ownBlock = some k → k ≠ g) : LmS w0 W' r B s n c lv nl cv nc p := by
  obtain ⟨a1, a2, a3, a4, a5, ⟨xs, a6, a7⟩, ys, a8, a9⟩ := h
  have z := a2.2.2.2.1
  exact ⟨Rd.below' a1 (b.below (by omega) (by have := a1.1; omega)), a2.onB (b.below (by omega) z), a3, a4, Nat.le_trans a5 b.2.2.2.1, ⟨xs, own_besL a6 b h1, a7⟩, ys, own_besL a8 b h2, a9⟩
theorem LmS.growL {w0 W : World} {r B : Nat} {s : Option Addr} {n c : Nat} {lv : Value} {nl : Nat} {cv : Value} {nc p : Nat} {W' : World} {v' : Value} {xs : List Value} {x y : Int} (h : LmS w0 W r B s n c lv nl cv nc p) (hU : W.ownsRow B 38 2 lv nl xs) (hP : RowsP isI isI xs nl) (ho : W'.ownsRow B 38 2 v' (nl + 1) (xs ++ [.int .i64 x, .int .i64 y])) (hg : W.grownBy W' lv.ownBlock) : LmS w0 W' r B s n c v' (nl + 1) cv nc p := by
  obtain ⟨a1, a2, a3, a4, a5, -, ys, a8, a9⟩ := h
  have b : Below B W W' := grown_below hg a5 (own_block hU)
  exact ⟨Rd.below' a1 (b.mono (by omega)), a2.onB (b.mono (by omega)), a3, a4, Nat.le_trans a5 b.size, ⟨_, ho, hP.app hU.1 ⟨x, rfl⟩ ⟨y, rfl⟩⟩, ys, own_grL hU a8 (by decide) hg, a9⟩
theorem LmS.growC {w0 W : World} {r B : Nat} {s : Option Addr} {n c : Nat} {lv : Value} {nl : Nat} {cv : Value} {nc p : Nat} {W' : World} {v' : Value} {ys : List Value} {x : Int} {y : Bool} (h : LmS w0 W r B s n c lv nl cv nc p) (hU : W.ownsRow B 29 2 cv nc ys) (hP : RowsP isI isB ys nc) (ho : W'.ownsRow B 29 2 v' (nc + 1) (ys ++ [.int .i64 x, .bool y])) (hg : W.grownBy W' cv.ownBlock) : LmS w0 W' r B s n c lv nl v' (nc + 1) p := by
  obtain ⟨a1, a2, a3, a4, a5, ⟨xs, a6, a7⟩, -⟩ := h
  have b : Below B W W' := grown_below hg a5 (own_block hU)
  exact ⟨Rd.below' a1 (b.mono (by omega)), a2.onB (b.mono (by omega)), a3, a4, Nat.le_trans a5 b.size, ⟨xs, own_grL hU a6 (by decide) hg, a7⟩, _, ho, hP.app hU.1 ⟨x, rfl⟩ ⟨y, rfl⟩⟩
theorem LmS.atL {w0 W : World} {r B : Nat} {s : Option Addr} {n c : Nat} {lv : Value} {nl : Nat} {cv : Value} {nc p : Nat} (h : LmS w0 W r B s n c lv nl cv nc p) (hn : 0 < nl) : ∃ g cap, lv = .slice (some ⟨g, 0, none⟩) nl cap ∧ B ≤ g ∧ g < W.heap.size ∧ (∀ o, W.frozen? ⟨g, o, none⟩ = false) ∧ (∃ x : Int, W.cell? ⟨g, 0, none⟩ = some (.int .i64 x)) ∧ (∃ y : Int, W.cell? ⟨g, 1, none⟩ = some (.int .i64 y)) ∧ ∀ k, cv.ownBlock = some k → k ≠ g := by
  obtain ⟨a1, a2, a3, a4, a5, ⟨xs, a6, a7⟩, ys, a8, a9⟩ := h
  have a6' := a6
  rcases a6.2 with ⟨q, q2⟩ | ⟨g, cap, cur, rfl, hb, hg, _⟩
  · omega
  · obtain ⟨x, y, e1, e2, ⟨x', rfl⟩, ⟨y', rfl⟩⟩ := a7 0 hn
    refine ⟨g, cap, rfl, hb, (Array.getElem?_eq_some_iff.1 hg).1, a6'.frozenAt, ⟨x', ?_⟩, ⟨y', ?_⟩, fun k hk e => ?_⟩
    · rw [a6'.cellAt 0 (by omega)]; exact e1
    · rw [a6'.cellAt 1 (by omega)]; exact e2
    · subst e
      obtain ⟨c1, hc1⟩ := own_tyL a8 hk
      rw [hg] at hc1
      cases hc1
theorem LmS.atC {w0 W : World} {r B : Nat} {s : Option Addr} {n c : Nat} {lv : Value} {nl : Nat} {cv : Value} {nc p : Nat} (h : LmS w0 W r B s n c lv nl cv nc p) (hn : 0 < nc) : ∃ g cap, cv = .slice (some ⟨g, 0, none⟩) nc cap ∧ B ≤ g ∧ g < W.heap.size ∧ (∀ o, W.frozen? ⟨g, o, none⟩ = false) ∧ (∃ x : Int, W.cell? ⟨g, 0, none⟩ = some (.int .i64 x)) ∧ (∃ y : Bool, W.cell? ⟨g, 1, none⟩ = some (.bool y)) ∧ ∀ k, lv.ownBlock = some k → k ≠ g := by
  obtain ⟨a1, a2, a3, a4, a5, ⟨xs, a6, a7⟩, ys, a8, a9⟩ := h
  have a8' := a8
  rcases a8.2 with ⟨q, q2⟩ | ⟨g, cap, cur, rfl, hb, hg, _⟩
  · omega
  · obtain ⟨x, y, e1, e2, ⟨x', rfl⟩, ⟨y', rfl⟩⟩ := a9 0 hn
    refine ⟨g, cap, rfl, hb, (Array.getElem?_eq_some_iff.1 hg).1, a8'.frozenAt, ⟨x', ?_⟩, ⟨y', ?_⟩, fun k hk e => ?_⟩
    · rw [a8'.cellAt 0 (by omega)]; exact e1
    · rw [a8'.cellAt 1 (by omega)]; exact e2
    · subst e
      obtain ⟨c1, hc1⟩ := own_tyL a6 hk
      rw [hg] at hc1
      cases hc1
theorem LmS.setL {w0 W : World} {r B : Nat} {s : Option Addr} {n c : Nat} {g cap nl : Nat} {cv : Value} {nc p : Nat} (h : LmS w0 W r B s n c (.slice (some ⟨g, 0, none⟩) nl cap) nl cv nc p) (i : Nat) (hi : i < 2) (x : Int) (hk : ∀ k, cv.ownBlock = some k → k ≠ g) : LmS w0 (W.setCell ⟨g, i, none⟩ (.int .i64 x)) r B s n c (.slice (some ⟨g, 0, none⟩) nl cap) nl cv nc p := by
  obtain ⟨a1, a2, a3, a4, a5, ⟨xs, a6, a7⟩, ys, a8, a9⟩ := h
  have hb := (a6.lt g rfl).1
  have b : Beside g W (W.setCell ⟨g, i, none⟩ (.int .i64 x)) := Beside.setCell g _ _ _
  have z := a2.2.2.2.1
  exact ⟨Rd.below' a1 (b.below (by omega) (by have := a1.1; omega)), a2.onB (b.below (by omega) z), a3, a4, Nat.le_trans a5 b.2.2.2.1, ⟨_, (a6.stored i _).1, a7.set0 (by rcases (by omega : i = 0 ∨ i = 1) with e | e; exact .inl ⟨e, x, rfl⟩; exact .inr ⟨e, x, rfl⟩)⟩, ys, own_besL a8 b hk, a9⟩
theorem LmS.setC {w0 W : World} {r B : Nat} {s : Option Addr} {n c : Nat} {g cap nl : Nat} {lv : Value} {nc p : Nat} (h : LmS w0 W r B s n c lv nl (.slice (some ⟨g, 0, none⟩) nc cap) nc p) (x : Bool) (hk : ∀ k, lv.ownBlock = some k → k ≠ g) : LmS w0 (W.setCell ⟨g, 1, none⟩ (.bool x)) r B s n c lv nl (.slice (some ⟨g, 0, none⟩) nc cap) nc p := by
  obtain ⟨a1, a2, a3, a4, a5, ⟨xs, a6, a7⟩, ys, a8, a9⟩ := h
  have hb := (a8.lt g rfl).1
  have b : Beside g W (W.setCell ⟨g, 1, none⟩ (.bool x)) := Beside.setCell g _ _ _
  have z := a2.2.2.2.1
  exact ⟨Rd.below' a1 (b.below (by omega) (by have := a1.1; omega)), a2.onB (b.below (by omega) z), a3, a4, Nat.le_trans a5 b.2.2.2.1, ⟨xs, own_besL a6 b hk, a7⟩, _, (a8.stored 1 _).1, a9.set0 (.inr ⟨rfl, x, rfl⟩)⟩
/-- What the limits are told by at the end. -/
theorem LmS.row {w0 W : World} {r B : Nat} {s : Option Addr} {n c : Nat} {lv : Value} {nl : Nat} {cv : Value} {nc p : Nat} (h : LmS w0 W r B s n c lv nl cv nc p) : ∃ t cap V, lv = .slice t nl cap ∧ RowLimit W t nl V ∧ ∀ g o, t = some ⟨g, o, none⟩ → w0.heap.size ≤ g := by
  obtain ⟨a1, a2, a3, a4, a5, ⟨xs, a6, a7⟩, ys, a8, a9⟩ := h
  have hch : ∀ j, ∃ v : Int × Int, j < nl → xs[j * 2]? = some (.int .i64 v.1) ∧ xs[j * 2 + 1]? = some (.int .i64 v.2) := fun j => by
    by_cases q : j < nl
    · obtain ⟨a, b, e1, e2, ⟨x, rfl⟩, ⟨y, rfl⟩⟩ := a7 j q
      exact ⟨(x, y), fun _ => ⟨e1, e2⟩⟩
    · exact ⟨(0, 0), fun q' => absurd q' q⟩
  have a6' := a6
  rcases a6.2 with ⟨rfl, rfl⟩ | ⟨g, cap, cur, rfl, hb, hg, _⟩
  · exact ⟨none, 0, fun _ => (0, 0), rfl, fun j hj => by omega, fun g o e => by cases e⟩
  · refine ⟨some ⟨g, 0, none⟩, cap, fun j => (hch j).choose, rfl, fun j hj => ?_, fun g' o e => by cases e; omega⟩
    obtain ⟨e1, e2⟩ := (hch j).choose_spec hj
    refine ⟨g, 0, rfl, (Array.getElem?_eq_some_iff.1 hg).1, ?_, ?_⟩
    · rw [Nat.zero_add, a6'.cellAt (j * 2) (by omega)]; exact e1
    · rw [Nat.zero_add, a6'.cellAt (j * 2 + 1) (by omega)]; exact e2
end Go.Proofs.YtmoeoepinlcmdaaDoor
