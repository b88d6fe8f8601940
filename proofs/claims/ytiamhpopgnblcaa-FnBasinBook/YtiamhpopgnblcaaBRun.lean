/-
What is proved: a run of days over a basin in whole numbers: the basin behind each day, and that there is one answer alone; a basin in memory.
-/
import Derived.Test.YtiamhpopgnblcaaBasinA
import Derived.Test.YtiamhpopgnblcaaOwn
namespace Go.Proofs.Ytiamhpopgnblcaa
set_option maxRecDepth 40000
open Go.RowKit
set_option linter.unusedVariables false
set_option linter.unusedSimpArgs false

abbrev T4 : Type := Int × Int × Int × Int
def val4 (x : T4) : Value := .agg #[.int .i64 x.1, .int .i64 x.2.1, .int .i64 x.2.2.1, .int .i64 x.2.2.2]
def zero4 : Value := .agg #[.int .i64 0, .int .i64 0, .int .i64 0, .int .i64 0]
def nextB (full : Int) (Y : Int → Int) (K : Int → Bool) (x : T4) (q k d : Int) : T4 := (nS x.1 x.2.1 x.2.2.1 x.2.2.2 full q k (Y d) (K d), nI x.1 x.2.1 x.2.2.1 x.2.2.2 full q k (Y d) (K d), nO x.1 x.2.1 x.2.2.1 x.2.2.2 full q k (Y d) (K d), nP x.1 x.2.1 x.2.2.1 x.2.2.2 full q k (Y d) (K d))
def runB (full : Int) (Y : Int → Int) (K : Int → Bool) (x : T4) (A : Nat → Int) : Nat → T4
  | 0 => x
  | j + 1 => nextB full Y K (runB full Y K x A j) (A (j * 3)) (A (j * 3 + 1)) (A (j * 3 + 2))
def okB (full : Int) (K : Int → Bool) (x : T4) (q k d : Int) : Bool := goodB x.1 x.2.1 x.2.2.1 x.2.2.2 full q k (K d)
def okR (full : Int) (Y : Int → Int) (K : Int → Bool) (x : T4) (A : Nat → Int) (j : Nat) : Bool := okB full K (runB full Y K x A j) (A (j * 3)) (A (j * 3 + 1)) (A (j * 3 + 2))
def goR (x : T4) (n : Nat) : Bool := basB x.1 x.2.1 x.2.2.1 x.2.2.2 && decide (n ≤ 500)
/-- What a run tells. -/
def RunBV (full : Int) (Y : Int → Int) (K : Int → Bool) (x : T4) (A : Nat → Int) (n : Nat) (v : Value) : Prop :=
  (goR x n = false ∧ v = .tuple #[zero4, .int .i64 (-1)]) ∨ (goR x n = true ∧ ∃ k : Nat, k ≤ n ∧ (∀ j, j < k → okR full Y K x A j = true) ∧ (k = n ∨ okR full Y K x A k = false) ∧ v = .tuple #[val4 (runB full Y K x A k), .int .i64 (k : Int)])
theorem RunBV.one {full : Int} {Y : Int → Int} {K : Int → Bool} {x : T4} {A : Nat → Int} {n : Nat} {u v : Value} (h : RunBV full Y K x A n u) (g : RunBV full Y K x A n v) : u = v := by
  rcases h with ⟨h1, rfl⟩ | ⟨h1, k, k1, k2, k3, rfl⟩ <;> rcases g with ⟨g1, rfl⟩ | ⟨g1, l, l1, l2, l3, rfl⟩
  · rfl
  · rw [h1] at g1; cases g1
  · rw [h1] at g1; cases g1
  · have e : k = l := by
      rcases Nat.lt_trichotomy k l with c | c | c
      · have := l2 k c
        rcases k3 with q | q
        · omega
        · rw [q] at this; cases this
      · exact c
      · have := k2 l c
        rcases l3 with q | q
        · omega
        · rw [q] at this; cases this
    rw [e]
theorem RunBV.form {full : Int} {Y : Int → Int} {K : Int → Bool} {x : T4} {A : Nat → Int} {n : Nat} {v : Value} (h : RunBV full Y K x A n v) : ∃ y0 y1 y2 y3 z, v = .tuple #[.agg #[.int .i64 y0, .int .i64 y1, .int .i64 y2, .int .i64 y3], .int .i64 z] := by
  rcases h with ⟨_, rfl⟩ | ⟨_, k, _, _, _, rfl⟩
  · exact ⟨_, _, _, _, _, rfl⟩
  · exact ⟨_, _, _, _, _, rfl⟩
theorem first_no (P : Nat → Bool) : ∀ n, ∃ k, k ≤ n ∧ (∀ j, j < k → P j = true) ∧ (k = n ∨ P k = false)
  | 0 => ⟨0, Nat.le_refl _, fun j hj => by omega, .inl rfl⟩
  | n + 1 => by
    obtain ⟨k, h1, h2, h3⟩ := first_no P n
    rcases h3 with h3 | h3
    · subst h3
      cases hp : P k
      · exact ⟨k, by omega, h2, .inr hp⟩
      · refine ⟨k + 1, Nat.le_refl _, fun j hj => ?_, .inl rfl⟩
        by_cases q : j = k
        · subst q; exact hp
        · exact h2 j (by omega)
    · exact ⟨k, by omega, h2, .inr h3⟩
theorem runBV_exists (full : Int) (Y : Int → Int) (K : Int → Bool) (x : T4) (A : Nat → Int) (n : Nat) : ∃ v, RunBV full Y K x A n v := by
  cases h : goR x n
  · exact ⟨_, .inl ⟨h, rfl⟩⟩
  · obtain ⟨k, h1, h2, h3⟩ := first_no (okR full Y K x A) n
    exact ⟨_, .inr ⟨h, k, h1, h2, h3, rfl⟩⟩
/-- A basin in memory. -/
def BasAt (w : World) (p : Nat) (x0 x1 x2 x3 : Int) : Prop := p < w.heap.size ∧ (∀ o, w.frozen? ⟨p, o, none⟩ = false) ∧ w.cell? ⟨p, 0, none⟩ = some (.int .i64 x0) ∧ w.cell? ⟨p, 1, none⟩ = some (.int .i64 x1) ∧ w.cell? ⟨p, 2, none⟩ = some (.int .i64 x2) ∧ w.cell? ⟨p, 3, none⟩ = some (.int .i64 x3)
theorem BasAt.low {w w' : World} {p B : Nat} {x0 x1 x2 x3 : Int} (h : BasAt w p x0 x1 x2 x3) (hb : Below B w w') (hp : p < B) : BasAt w' p x0 x1 x2 x3 := by
  obtain ⟨h1, f, c0, c1, c2, c3⟩ := h
  exact ⟨Nat.lt_of_lt_of_le h1 hb.size, fun o => (hb.frozen (p := ⟨p, o, none⟩) hp).trans (f o), (hb.cell (p := ⟨p, 0, none⟩) hp).trans c0, (hb.cell (p := ⟨p, 1, none⟩) hp).trans c1, (hb.cell (p := ⟨p, 2, none⟩) hp).trans c2, (hb.cell (p := ⟨p, 3, none⟩) hp).trans c3⟩
theorem BasAt.below {w w' : World} {p : Nat} {x0 x1 x2 x3 : Int} (h : BasAt w p x0 x1 x2 x3) (hb : Below w.heap.size w w') : BasAt w' p x0 x1 x2 x3 := h.low hb h.1
theorem BasAt.set {w : World} {p : Nat} {x0 x1 x2 x3 : Int} (h : BasAt w p x0 x1 x2 x3) (y0 y1 y2 y3 : Int) : BasAt ((((w.setCell ⟨p, 0, none⟩ (.int .i64 y0)).setCell ⟨p, 1, none⟩ (.int .i64 y1)).setCell ⟨p, 2, none⟩ (.int .i64 y2)).setCell ⟨p, 3, none⟩ (.int .i64 y3)) p y0 y1 y2 y3 := by
  obtain ⟨h1, f, c0, c1, c2, c3⟩ := h
  refine ⟨by simp [h1], fun o => by simp [go_sem, f o], ?_, ?_, ?_, ?_⟩
  all_goals simp (maxDischargeDepth := 12) [go_sem, c0, c1, c2, c3]
theorem BasAt.beside {w w' : World} {p r : Nat} {x0 x1 x2 x3 : Int} (h : BasAt w p x0 x1 x2 x3) (hb : Beside r w w') (hp : p ≠ r) : BasAt w' p x0 x1 x2 x3 := by
  obtain ⟨h1, f, c0, c1, c2, c3⟩ := h
  exact ⟨Nat.lt_of_lt_of_le h1 hb.2.2.2.1, fun o => (hb.frozen (p := ⟨p, o, none⟩) h1 hp).trans (f o), (hb.cell (p := ⟨p, 0, none⟩) h1 hp).trans c0, (hb.cell (p := ⟨p, 1, none⟩) h1 hp).trans c1, (hb.cell (p := ⟨p, 2, none⟩) h1 hp).trans c2, (hb.cell (p := ⟨p, 3, none⟩) h1 hp).trans c3⟩
theorem row_beside {w w1 wr : World} {s : Option Addr} {m : Nat} {V : Nat → Int} (h : RowI w s m V) (hb : Below w.heap.size w w1) (hs : Beside w.heap.size w1 wr) : RowI wr s m V := fun j hj => by
  obtain ⟨b, o, e, hl, hc⟩ := h j hj
  have hl1 : b < w1.heap.size := Nat.lt_of_lt_of_le hl hb.size
  exact ⟨b, o, e, Nat.lt_of_lt_of_le hl1 hs.2.2.2.1, (hs.cell (p := ⟨b, o + j, none⟩) hl1 (by show b ≠ w.heap.size; omega)).trans ((hb.cell (p := ⟨b, o + j, none⟩) hl).trans hc)⟩
theorem row_low {w : World} {s : Option Addr} {m : Nat} {V : Nat → Int} (h : RowI w s m V) : ∀ j, j < m → ∃ b o, s = some ⟨b, o, none⟩ ∧ b < w.heap.size := fun j hj => by
  obtain ⟨b, o, e, hl, hc⟩ := h j hj
  exact ⟨b, o, e, hl⟩
theorem keep7w {W W' : World} {p r i0 i1 i2 : Nat} {a0 a1 a2 a3 b0 b1 b2 : Value} (h0 : W.cell? ⟨p, 0, none⟩ = some a0) (h1 : W.cell? ⟨p, 1, none⟩ = some a1) (h2 : W.cell? ⟨p, 2, none⟩ = some a2) (h3 : W.cell? ⟨p, 3, none⟩ = some a3) (g0 : W.cell? ⟨r, i0, none⟩ = some b0) (g1 : W.cell? ⟨r, i1, none⟩ = some b1) (g2 : W.cell? ⟨r, i2, none⟩ = some b2) (zp : p < W.heap.size) (zr : r < W.heap.size) (hb : Below W.heap.size W W') :
    W'.cell? ⟨p, 0, none⟩ = some a0 ∧ W'.cell? ⟨p, 1, none⟩ = some a1 ∧ W'.cell? ⟨p, 2, none⟩ = some a2 ∧ W'.cell? ⟨p, 3, none⟩ = some a3 ∧ W'.cell? ⟨r, i0, none⟩ = some b0 ∧ W'.cell? ⟨r, i1, none⟩ = some b1 ∧ W'.cell? ⟨r, i2, none⟩ = some b2 :=
  ⟨(hb.cell (p := ⟨p, 0, none⟩) zp).trans h0, (hb.cell (p := ⟨p, 1, none⟩) zp).trans h1, (hb.cell (p := ⟨p, 2, none⟩) zp).trans h2, (hb.cell (p := ⟨p, 3, none⟩) zp).trans h3, (hb.cell (p := ⟨r, i0, none⟩) zr).trans g0, (hb.cell (p := ⟨r, i1, none⟩) zr).trans g1, (hb.cell (p := ⟨r, i2, none⟩) zr).trans g2⟩
end Go.Proofs.Ytiamhpopgnblcaa
