/-
What is proved: a run of a loop in whole numbers; how a row that a call makes, and a hold in its block, go on beside each other.
-/
import Derived.Test.YtdpghhgfkhlliaaLs
import Derived.Test.YtdpghhgfkhlliaaOwnV
import Derived.Test.YtdpghhgfkhlliaaOwnL
import Derived.Test.YtdpghhgfkhlliaaI64
namespace Go.Proofs.Ytdpghhgfkhlliaa
set_option maxRecDepth 40000
open Go.RowKit
set_option linter.unusedVariables false

abbrev H4 := Bool × Int × Int × Int
def valH (x : H4) : Value := .agg #[.bool x.1, .int .i64 x.2.1, .int .i64 x.2.2.1, .int .i64 x.2.2.2]
def okH (P I D S L H B : Int) (x : H4) (want seen : Int) : Bool := stepB P I D S L H B x.1 x.2.1 x.2.2.1 x.2.2.2 want seen
def nextH (P I D S L H B : Int) (x : H4) (want seen : Int) : H4 := (okH P I D S L H B x want seen, nU P I D S L H B x.1 x.2.1 x.2.2.1 x.2.2.2 want seen, nV P I D S L H B x.1 x.2.1 x.2.2.1 x.2.2.2 want seen, nX P I D S L H B x.1 x.2.1 x.2.2.1 x.2.2.2 want seen)
def runH (P I D S L H B : Int) (x : H4) (F G : Nat → Int) : Nat → H4
  | 0 => x
  | k + 1 => nextH P I D S L H B (runH P I D S L H B x F G k) (F k) (G k)
def outK (P I D S L H B : Int) (x : H4) (F G : Nat → Int) (k : Nat) : Int := (runH P I D S L H B x F G (k + 1)).2.2.2
def runOk (P I D S L H B : Int) (x : H4) (F G : Nat → Int) (k : Nat) : Bool := okH P I D S L H B (runH P I D S L H B x F G k) (F k) (G k)
def goR (P I D S L H B : Int) (x : H4) (n n' : Nat) : Prop := okB P I D S L H B x.1 x.2.1 x.2.2.1 x.2.2.2 = true ∧ n = n' ∧ n ≤ 1000
def RunLV (P I D S L H B : Int) (x : H4) (n n' : Nat) (F G : Nat → Int) (m : Nat) (y : H4) (b : Bool) : Prop :=
  (m = n ∧ y = runH P I D S L H B x F G n ∧ b = true ∧ goR P I D S L H B x n n' ∧ ∀ j, j < n → runOk P I D S L H B x F G j = true) ∨ (m = 0 ∧ y = (false, 0, 0, 0) ∧ b = false ∧ ¬ (goR P I D S L H B x n n' ∧ ∀ j, j < n → runOk P I D S L H B x F G j = true))
theorem RunLV.one {P I D S L H B : Int} {x : H4} {n n' : Nat} {F G : Nat → Int} {m m' : Nat} {y y' : H4} {b b' : Bool} (h : RunLV P I D S L H B x n n' F G m y b) (h' : RunLV P I D S L H B x n n' F G m' y' b') : m = m' ∧ y = y' ∧ b = b' := by
  rcases h with ⟨rfl, rfl, rfl, h⟩ | ⟨rfl, rfl, rfl, h⟩ <;> rcases h' with ⟨rfl, rfl, rfl, h'⟩ | ⟨rfl, rfl, rfl, h'⟩
  · exact ⟨rfl, rfl, rfl⟩
  · exact absurd h h'
  · exact absurd h' h
  · exact ⟨rfl, rfl, rfl⟩
theorem runL_some (P I D S L H B : Int) (x : H4) (n n' : Nat) (F G : Nat → Int) : ∃ m y b, RunLV P I D S L H B x n n' F G m y b ∧ m ≤ n := by
  by_cases h : goR P I D S L H B x n n' ∧ ∀ j, j < n → runOk P I D S L H B x F G j = true
  · exact ⟨n, _, _, .inl ⟨rfl, rfl, rfl, h⟩, Nat.le_refl _⟩
  · exact ⟨0, _, _, .inr ⟨rfl, rfl, rfl, h⟩, Nat.zero_le _⟩
theorem Beside.low {r : Nat} {a b c : World} (h : Beside r a b) (k : Below a.heap.size b c) : Beside r a c := by
  obtain ⟨h1, h2, h3, h4, h5⟩ := h
  exact ⟨k.os.trans h1, k.tape.trans h2, k.output.trans h3, Nat.le_trans h4 k.size, fun j hj hn => (k.block j hj).trans (h5 j hj hn)⟩
/-- The four cells of a hold at a place that may be written. -/
def HoldAt (w : World) (p : Nat) (x0 : Bool) (x1 x2 x3 : Int) : Prop := p < w.heap.size ∧ (∀ o, w.frozen? ⟨p, o, none⟩ = false) ∧ w.cell? ⟨p, 0, none⟩ = some (.bool x0) ∧ w.cell? ⟨p, 1, none⟩ = some (.int .i64 x1) ∧ w.cell? ⟨p, 2, none⟩ = some (.int .i64 x2) ∧ w.cell? ⟨p, 3, none⟩ = some (.int .i64 x3)
theorem HoldAt.low {w w' : World} {p B : Nat} {x0 : Bool} {x1 x2 x3 : Int} (h : HoldAt w p x0 x1 x2 x3) (hb : Below B w w') (hp : p < B) : HoldAt w' p x0 x1 x2 x3 := by
  obtain ⟨h1, h2, c0, c1, c2, c3⟩ := h
  exact ⟨Nat.lt_of_lt_of_le h1 hb.size, fun o => (hb.frozen (p := ⟨p, o, none⟩) hp).trans (h2 o), (hb.cell (p := ⟨p, 0, none⟩) hp).trans c0, (hb.cell (p := ⟨p, 1, none⟩) hp).trans c1, (hb.cell (p := ⟨p, 2, none⟩) hp).trans c2, (hb.cell (p := ⟨p, 3, none⟩) hp).trans c3⟩
theorem HoldAt.below {w w' : World} {p : Nat} {x0 : Bool} {x1 x2 x3 : Int} (h : HoldAt w p x0 x1 x2 x3) (hb : Below w.heap.size w w') : HoldAt w' p x0 x1 x2 x3 := h.low hb h.1
def set4 (w : World) (p : Nat) (u0 : Bool) (u1 u2 u3 : Int) : World := (((w.setCell ⟨p, 0, none⟩ (.bool u0)).setCell ⟨p, 1, none⟩ (.int .i64 u1)).setCell ⟨p, 2, none⟩ (.int .i64 u2)).setCell ⟨p, 3, none⟩ (.int .i64 u3)
theorem set4_beside (w : World) (p : Nat) (u0 : Bool) (u1 u2 u3 : Int) : Beside p w (set4 w p u0 u1 u2 u3) := (((Beside.setCell _ _ 0 _).trans (Beside.setCell _ _ 1 _)).trans (Beside.setCell _ _ 2 _)).trans (Beside.setCell _ _ 3 _)
theorem HoldAt.set {w : World} {p : Nat} {x0 : Bool} {x1 x2 x3 : Int} (h : HoldAt w p x0 x1 x2 x3) (u0 : Bool) (u1 u2 u3 : Int) : HoldAt (set4 w p u0 u1 u2 u3) p u0 u1 u2 u3 := by
  obtain ⟨h1, h2, c0, c1, c2, c3⟩ := h
  unfold set4
  refine ⟨by simpa using h1, fun o => ?_, ?_, ?_, ?_, ?_⟩
  · have := h2 o; simpa [go_sem] using this
  all_goals simp [go_sem, c0, c1, c2, c3]
theorem own_beside {w w' : World} {base p : Nat} {e : TypeId} {size : Nat} {v : Value} {n : Nat} {xs : List Value} (h : w.ownsRow base e size v n xs) (hs : Beside p w w') (hp : p < base) : w'.ownsRow base e size v n xs :=
  own_same h fun g hg => hs.2.2.2.2 g (h.lt g hg).2 (by have := (h.lt g hg).1; omega)
theorem own_below {w w' : World} {base : Nat} {e : TypeId} {size : Nat} {v : Value} {n : Nat} {xs : List Value} (h : w.ownsRow base e size v n xs) (hs : Below w.heap.size w w') : w'.ownsRow base e size v n xs :=
  own_same h fun g hg => hs.block g (h.lt g hg).2
/-- Where a run stands: the hold in its block, the outs in their row. -/
def LrAt (p : Nat) (w1 wr : World) (v : Value) (k : Nat) (U : Nat → Int) (y : H4) : Prop :=
  Beside p w1 wr ∧ HoldAt wr p y.1 y.2.1 y.2.2.1 y.2.2.2 ∧ wr.ownsRow w1.heap.size 2 1 v k (vals U k)
theorem LrAt.below {p : Nat} {w1 wr w' : World} {v : Value} {k : Nat} {U : Nat → Int} {y : H4} (h : LrAt p w1 wr v k U y) (hb : Below wr.heap.size wr w') : LrAt p w1 w' v k U y :=
  ⟨h.1.trans (Beside.of hb), h.2.1.below hb, own_below h.2.2 hb⟩
theorem LrAt.set {p : Nat} {w1 wr : World} {v : Value} {k : Nat} {U : Nat → Int} {y : H4} (h : LrAt p w1 wr v k U y) (hp : p < w1.heap.size) (u0 : Bool) (u1 u2 u3 : Int) : LrAt p w1 (set4 wr p u0 u1 u2 u3) v k U (u0, u1, u2, u3) :=
  ⟨h.1.trans (set4_beside wr p u0 u1 u2 u3), h.2.1.set u0 u1 u2 u3, own_beside h.2.2 (set4_beside wr p u0 u1 u2 u3) hp⟩
theorem LrAt.on {p : Nat} {w1 wr w' : World} {v v' : Value} {k : Nat} {U : Nat → Int} {y : H4} {x : Int} (h : LrAt p w1 wr v k U y) (hp : p < w1.heap.size) (hg : wr.grownBy w' v.ownBlock) (ho : w'.ownsRow w1.heap.size 2 1 v' (k + 1) (vals U k ++ [.int .i64 x])) (hx : x = U k) : LrAt p w1 w' v' (k + 1) U y := by
  have B : Below w1.heap.size wr w' := grown_below hg h.1.2.2.2.1 (own_block h.2.2)
  exact ⟨h.1.low B, h.2.1.low B hp, by rw [vals_succ, ← hx]; exact ho⟩
theorem LrAt.own {p : Nat} {w1 wr : World} {v : Value} {k : Nat} {U : Nat → Int} {y : H4} (h : LrAt p w1 wr v k U y) : ∃ s cap, v = .slice s k cap ∧ OwnI w1.heap.size wr s k U := by
  have := own_OwnI (size := 1) (U := U) (by rw [Nat.mul_one]; exact h.2.2)
  rwa [Nat.mul_one] at this
theorem keepLR {W W' : World} {p q g i r j : Nat} {a0 a1 a2 a3 a4 a5 a6 a7 a8 a9 a10 b0 b1 : Value} (h0 : W.cell? ⟨p, 0, none⟩ = some a0) (h1 : W.cell? ⟨p, 1, none⟩ = some a1) (h2 : W.cell? ⟨p, 2, none⟩ = some a2) (h3 : W.cell? ⟨p, 3, none⟩ = some a3) (h4 : W.cell? ⟨p, 4, none⟩ = some a4) (h5 : W.cell? ⟨p, 5, none⟩ = some a5) (h6 : W.cell? ⟨p, 6, none⟩ = some a6) (h7 : W.cell? ⟨q, 0, none⟩ = some a7) (h8 : W.cell? ⟨q, 1, none⟩ = some a8) (h9 : W.cell? ⟨q, 2, none⟩ = some a9) (h10 : W.cell? ⟨q, 3, none⟩ = some a10) (g0 : W.cell? ⟨g, i, none⟩ = some b0) (g1 : W.cell? ⟨r, j, none⟩ = some b1) (zp : p < W.heap.size) (zq : q < W.heap.size) (hg : g < W.heap.size) (hr : r < W.heap.size) (hb : Below W.heap.size W W') :
    W'.cell? ⟨p, 0, none⟩ = some a0 ∧ W'.cell? ⟨p, 1, none⟩ = some a1 ∧ W'.cell? ⟨p, 2, none⟩ = some a2 ∧ W'.cell? ⟨p, 3, none⟩ = some a3 ∧ W'.cell? ⟨p, 4, none⟩ = some a4 ∧ W'.cell? ⟨p, 5, none⟩ = some a5 ∧ W'.cell? ⟨p, 6, none⟩ = some a6 ∧ W'.cell? ⟨q, 0, none⟩ = some a7 ∧ W'.cell? ⟨q, 1, none⟩ = some a8 ∧ W'.cell? ⟨q, 2, none⟩ = some a9 ∧ W'.cell? ⟨q, 3, none⟩ = some a10 ∧ W'.cell? ⟨g, i, none⟩ = some b0 ∧ W'.cell? ⟨r, j, none⟩ = some b1 :=
  ⟨(hb.cell (p := ⟨p, 0, none⟩) zp).trans h0, (hb.cell (p := ⟨p, 1, none⟩) zp).trans h1, (hb.cell (p := ⟨p, 2, none⟩) zp).trans h2, (hb.cell (p := ⟨p, 3, none⟩) zp).trans h3, (hb.cell (p := ⟨p, 4, none⟩) zp).trans h4, (hb.cell (p := ⟨p, 5, none⟩) zp).trans h5, (hb.cell (p := ⟨p, 6, none⟩) zp).trans h6, (hb.cell (p := ⟨q, 0, none⟩) zq).trans h7, (hb.cell (p := ⟨q, 1, none⟩) zq).trans h8, (hb.cell (p := ⟨q, 2, none⟩) zq).trans h9, (hb.cell (p := ⟨q, 3, none⟩) zq).trans h10, (hb.cell (p := ⟨g, i, none⟩) hg).trans g0, (hb.cell (p := ⟨r, j, none⟩) hr).trans g1⟩
end Go.Proofs.Ytdpghhgfkhlliaa
