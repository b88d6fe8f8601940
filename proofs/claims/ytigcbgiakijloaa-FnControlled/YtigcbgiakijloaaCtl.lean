/-
What is proved: a controlled drum in whole numbers; how a row that a call makes, and a drum in its block, go on beside each other.
-/
import Derived.Test.YtigcbgiakijloaaRunT
import Derived.Test.YtigcbgiakijloaaOwnV
import Derived.Test.YtigcbgiakijloaaOwnL
import Derived.Test.YtigcbgiakijloaaI64
namespace Go.Proofs.Ytigcbgiakijloaa
set_option maxRecDepth 40000
open Go.RowKit
set_option linter.unusedVariables false

def levelT (x : T7) : Int := levelV x.1 x.2.1 x.2.2.1 x.2.2.2.1 x.2.2.2.2.1 x.2.2.2.2.2.1 x.2.2.2.2.2.2
def feedV (x : T7) (L d : Int) : Int := max 0 (min 1000000 (L - levelT x + d))
def ctlT (x : T7) (L : Int) (F D : Nat → Int) : Nat → T7
  | 0 => x
  | k + 1 => nextT (ctlT x L F D k) (feedV (ctlT x L F D k) L (D k)) (F k) (D k)
def feedK (x : T7) (L : Int) (F D : Nat → Int) (k : Nat) : Int := feedV (ctlT x L F D k) L (D k)
def ctlOk (x : T7) (L : Int) (F D : Nat → Int) (k : Nat) : Bool := okT (ctlT x L F D k) (feedK x L F D k) (F k) (D k)
def drumT (x : T7) : Bool := drumB x.1 x.2.1 x.2.2.1 x.2.2.2.1 x.2.2.2.2.1 x.2.2.2.2.2.1 x.2.2.2.2.2.2
def goC (x : T7) (L : Int) (n n' : Nat) : Prop := drumT x = true ∧ 0 ≤ L ∧ L ≤ 1000000000000 ∧ n = n' ∧ n ≤ 500
def CtlV (x : T7) (L : Int) (n n' : Nat) (F D : Nat → Int) (m : Nat) (y : T7) (b : Bool) : Prop :=
  (m = n ∧ y = ctlT x L F D n ∧ b = true ∧ goC x L n n' ∧ ∀ j, j < n → ctlOk x L F D j = true) ∨ (m = 0 ∧ y = (0, 0, 0, 0, 0, 0, 0) ∧ b = false ∧ ¬ (goC x L n n' ∧ ∀ j, j < n → ctlOk x L F D j = true))
theorem CtlV.one {x : T7} {L : Int} {n n' : Nat} {F D : Nat → Int} {m m' : Nat} {y y' : T7} {b b' : Bool} (h : CtlV x L n n' F D m y b) (h' : CtlV x L n n' F D m' y' b') : m = m' ∧ y = y' ∧ b = b' := by
  rcases h with ⟨rfl, rfl, rfl, h⟩ | ⟨rfl, rfl, rfl, h⟩ <;> rcases h' with ⟨rfl, rfl, rfl, h'⟩ | ⟨rfl, rfl, rfl, h'⟩
  · exact ⟨rfl, rfl, rfl⟩
  · exact absurd h h'
  · exact absurd h' h
  · exact ⟨rfl, rfl, rfl⟩
theorem ctl_some (x : T7) (L : Int) (n n' : Nat) (F D : Nat → Int) : ∃ m y b, CtlV x L n n' F D m y b ∧ m ≤ n := by
  by_cases h : goC x L n n' ∧ ∀ j, j < n → ctlOk x L F D j = true
  · exact ⟨n, _, _, .inl ⟨rfl, rfl, rfl, h⟩, Nat.le_refl _⟩
  · exact ⟨0, _, _, .inr ⟨rfl, rfl, rfl, h⟩, Nat.zero_le _⟩
theorem level_bd (x0 x1 x2 x3 x4 x5 x6 : Int) : -1 ≤ levelV x0 x1 x2 x3 x4 x5 x6 ∧ levelV x0 x1 x2 x3 x4 x5 x6 ≤ 3000000000000 := by
  unfold levelV
  split
  · next h => obtain ⟨a, b, -⟩ := drum_yes h; unfold inD at a b; omega
  · omega
theorem ok_act {x : T7} {fe fi dr : Int} (h : okT x fe fi dr = true) : inS fe ∧ inS fi ∧ inS dr := by
  unfold okT stepOk actB at h
  simp only [Bool.and_eq_true, decide_eq_true_eq] at h
  exact h.1.2
theorem Beside.low {r : Nat} {a b c : World} (h : Beside r a b) (k : Below a.heap.size b c) : Beside r a c := by
  obtain ⟨h1, h2, h3, h4, h5⟩ := h
  exact ⟨k.os.trans h1, k.tape.trans h2, k.output.trans h3, Nat.le_trans h4 k.size, fun j hj hn => (k.block j hj).trans (h5 j hj hn)⟩
theorem DrumAt.low {w w' : World} {p B : Nat} {x0 x1 x2 x3 x4 x5 x6 : Int} (h : DrumAt w p x0 x1 x2 x3 x4 x5 x6) (hb : Below B w w') (hp : p < B) : DrumAt w' p x0 x1 x2 x3 x4 x5 x6 := by
  obtain ⟨h1, h2, c0, c1, c2, c3, c4, c5, c6⟩ := h
  refine ⟨Nat.lt_of_lt_of_le h1 hb.size, fun o => (hb.frozen (p := ⟨p, o, none⟩) hp).trans (h2 o), ?_, ?_, ?_, ?_, ?_, ?_, ?_⟩
  · exact (hb.cell (p := ⟨p, 0, none⟩) hp).trans c0
  · exact (hb.cell (p := ⟨p, 1, none⟩) hp).trans c1
  · exact (hb.cell (p := ⟨p, 2, none⟩) hp).trans c2
  · exact (hb.cell (p := ⟨p, 3, none⟩) hp).trans c3
  · exact (hb.cell (p := ⟨p, 4, none⟩) hp).trans c4
  · exact (hb.cell (p := ⟨p, 5, none⟩) hp).trans c5
  · exact (hb.cell (p := ⟨p, 6, none⟩) hp).trans c6
theorem own_beside {w w' : World} {base p : Nat} {e : TypeId} {size : Nat} {v : Value} {n : Nat} {xs : List Value} (h : w.ownsRow base e size v n xs) (hs : Beside p w w') (hp : p < base) : w'.ownsRow base e size v n xs :=
  own_same h fun g hg => hs.2.2.2.2 g (h.lt g hg).2 (by have := (h.lt g hg).1; omega)
theorem own_below {w w' : World} {base : Nat} {e : TypeId} {size : Nat} {v : Value} {n : Nat} {xs : List Value} (h : w.ownsRow base e size v n xs) (hs : Below w.heap.size w w') : w'.ownsRow base e size v n xs :=
  own_same h fun g hg => hs.block g (h.lt g hg).2
/-- Where a controlled run stands: the drum in its block, the feeds in their row. -/
def CtlAt (p : Nat) (w1 wr : World) (v : Value) (k : Nat) (U : Nat → Int) (y0 y1 y2 y3 y4 y5 y6 : Int) : Prop :=
  Beside p w1 wr ∧ DrumAt wr p y0 y1 y2 y3 y4 y5 y6 ∧ wr.ownsRow w1.heap.size 2 1 v k (vals U k)
theorem CtlAt.below {p : Nat} {w1 wr w' : World} {v : Value} {k : Nat} {U : Nat → Int} {y0 y1 y2 y3 y4 y5 y6 : Int} (h : CtlAt p w1 wr v k U y0 y1 y2 y3 y4 y5 y6) (hb : Below wr.heap.size wr w') : CtlAt p w1 w' v k U y0 y1 y2 y3 y4 y5 y6 :=
  ⟨h.1.trans (Beside.of hb), h.2.1.below hb, own_below h.2.2 hb⟩
def set7 (w : World) (p : Nat) (u0 u1 u2 u3 u4 u5 u6 : Int) : World := ((((((w.setCell ⟨p, 0, none⟩ (.int .i64 u0)).setCell ⟨p, 1, none⟩ (.int .i64 u1)).setCell ⟨p, 2, none⟩ (.int .i64 u2)).setCell ⟨p, 3, none⟩ (.int .i64 u3)).setCell ⟨p, 4, none⟩ (.int .i64 u4)).setCell ⟨p, 5, none⟩ (.int .i64 u5)).setCell ⟨p, 6, none⟩ (.int .i64 u6)
theorem set7_beside (w : World) (p : Nat) (u0 u1 u2 u3 u4 u5 u6 : Int) : Beside p w (set7 w p u0 u1 u2 u3 u4 u5 u6) := ((((((Beside.setCell _ _ 0 _).trans (Beside.setCell _ _ 1 _)).trans (Beside.setCell _ _ 2 _)).trans (Beside.setCell _ _ 3 _)).trans (Beside.setCell _ _ 4 _)).trans (Beside.setCell _ _ 5 _)).trans (Beside.setCell _ _ 6 _)
theorem CtlAt.set {p : Nat} {w1 wr : World} {v : Value} {k : Nat} {U : Nat → Int} {y0 y1 y2 y3 y4 y5 y6 : Int} (h : CtlAt p w1 wr v k U y0 y1 y2 y3 y4 y5 y6) (hp : p < w1.heap.size) (u0 u1 u2 u3 u4 u5 u6 : Int) : CtlAt p w1 (set7 wr p u0 u1 u2 u3 u4 u5 u6) v k U u0 u1 u2 u3 u4 u5 u6 := by
  have B : Beside p wr (set7 wr p u0 u1 u2 u3 u4 u5 u6) := ((((((Beside.setCell _ _ 0 _).trans (Beside.setCell _ _ 1 _)).trans (Beside.setCell _ _ 2 _)).trans (Beside.setCell _ _ 3 _)).trans (Beside.setCell _ _ 4 _)).trans (Beside.setCell _ _ 5 _)).trans (Beside.setCell _ _ 6 _)
  exact ⟨h.1.trans B, ((((((h.2.1.set0 _).set1 _).set2 _).set3 _).set4 _).set5 _).set6 _, own_beside h.2.2 B hp⟩
theorem CtlAt.on {p : Nat} {w1 wr w' : World} {v v' : Value} {k : Nat} {U : Nat → Int} {y0 y1 y2 y3 y4 y5 y6 x : Int} (h : CtlAt p w1 wr v k U y0 y1 y2 y3 y4 y5 y6) (hp : p < w1.heap.size) (hg : wr.grownBy w' v.ownBlock) (ho : w'.ownsRow w1.heap.size 2 1 v' (k + 1) (vals U k ++ [.int .i64 x])) (hx : x = U k) : CtlAt p w1 w' v' (k + 1) U y0 y1 y2 y3 y4 y5 y6 := by
  have B : Below w1.heap.size wr w' := grown_below hg h.1.2.2.2.1 (own_block h.2.2)
  exact ⟨h.1.low B, h.2.1.low B hp, by rw [vals_succ, ← hx]; exact ho⟩
theorem CtlAt.own {p : Nat} {w1 wr : World} {v : Value} {k : Nat} {U : Nat → Int} {y0 y1 y2 y3 y4 y5 y6 : Int} (h : CtlAt p w1 wr v k U y0 y1 y2 y3 y4 y5 y6) : ∃ s cap, v = .slice s k cap ∧ OwnI w1.heap.size wr s k U := by
  have := own_OwnI (size := 1) (U := U) (by rw [Nat.mul_one]; exact h.2.2)
  rwa [Nat.mul_one] at this
theorem keepB {W W' : World} {p q i r j : Nat} {a0 a1 a2 a3 a4 a5 a6 b0 b1 : Value} (h0 : W.cell? ⟨p, 0, none⟩ = some a0) (h1 : W.cell? ⟨p, 1, none⟩ = some a1) (h2 : W.cell? ⟨p, 2, none⟩ = some a2) (h3 : W.cell? ⟨p, 3, none⟩ = some a3) (h4 : W.cell? ⟨p, 4, none⟩ = some a4) (h5 : W.cell? ⟨p, 5, none⟩ = some a5) (h6 : W.cell? ⟨p, 6, none⟩ = some a6) (g0 : W.cell? ⟨q, i, none⟩ = some b0) (g1 : W.cell? ⟨r, j, none⟩ = some b1) (hp : p < W.heap.size) (hq : q < W.heap.size) (hr : r < W.heap.size) (hb : Below W.heap.size W W') :
    W'.cell? ⟨p, 0, none⟩ = some a0 ∧ W'.cell? ⟨p, 1, none⟩ = some a1 ∧ W'.cell? ⟨p, 2, none⟩ = some a2 ∧ W'.cell? ⟨p, 3, none⟩ = some a3 ∧ W'.cell? ⟨p, 4, none⟩ = some a4 ∧ W'.cell? ⟨p, 5, none⟩ = some a5 ∧ W'.cell? ⟨p, 6, none⟩ = some a6 ∧ W'.cell? ⟨q, i, none⟩ = some b0 ∧ W'.cell? ⟨r, j, none⟩ = some b1 :=
  ⟨(hb.cell (p := ⟨p, 0, none⟩) hp).trans h0, (hb.cell (p := ⟨p, 1, none⟩) hp).trans h1, (hb.cell (p := ⟨p, 2, none⟩) hp).trans h2, (hb.cell (p := ⟨p, 3, none⟩) hp).trans h3, (hb.cell (p := ⟨p, 4, none⟩) hp).trans h4, (hb.cell (p := ⟨p, 5, none⟩) hp).trans h5, (hb.cell (p := ⟨p, 6, none⟩) hp).trans h6, (hb.cell (p := ⟨q, i, none⟩) hq).trans g0, (hb.cell (p := ⟨r, j, none⟩) hr).trans g1⟩
end Go.Proofs.Ytigcbgiakijloaa
