/-
What is proved: a run of a drum in whole numbers: the drum behind each step, and that there is one answer alone.
-/
import Derived.Test.YtjiojofgpdimaaaRunT
import Derived.Test.YtjiojofgpdimaaaActsE
namespace Go.Proofs.Ytjiojofgpdimaaa
set_option maxRecDepth 40000
open Go.RowKit

def runT (x : T7) (A : Nat → Int) : Nat → T7
  | 0 => x
  | k + 1 => nextT (runT x A k) (A (k * 3)) (A (k * 3 + 1)) (A (k * 3 + 2))
def okK (x : T7) (A : Nat → Int) (k : Nat) : Bool := okT (runT x A k) (A (k * 3)) (A (k * 3 + 1)) (A (k * 3 + 2))
def goB (x : T7) (n : Nat) : Bool := drumB x.1 x.2.1 x.2.2.1 x.2.2.2.1 x.2.2.2.2.1 x.2.2.2.2.2.1 x.2.2.2.2.2.2 && decide (n ≤ 500)
/-- What a run tells. -/
def RunV (x : T7) (A : Nat → Int) (n : Nat) (v : Value) : Prop :=
  (goB x n = false ∧ v = .tuple #[drum0, .int .i64 (-1)]) ∨ (goB x n = true ∧ ∃ k : Nat, k ≤ n ∧ (∀ j, j < k → okK x A j = true) ∧ (k = n ∨ okK x A k = false) ∧ v = .tuple #[valT (runT x A k), .int .i64 (k : Int)])
theorem RunV.one {x : T7} {A : Nat → Int} {n : Nat} {u v : Value} (h : RunV x A n u) (g : RunV x A n v) : u = v := by
  rcases h with ⟨h1, rfl⟩ | ⟨h1, k, k1, k2, k3, rfl⟩ <;> rcases g with ⟨g1, rfl⟩ | ⟨g1, l, l1, l2, l3, rfl⟩
  · rfl
  · rw [h1] at g1; cases g1
  · rw [h1] at g1; cases g1
  · have e : k = l := by
      rcases Nat.lt_trichotomy k l with c | c | c
      · have := l2 k c
        rcases k3 with q | q
        · omega
        · rw [q] at this; cases this
      · exact c
      · have := k2 l c
        rcases l3 with q | q
        · omega
        · rw [q] at this; cases this
    rw [e]
theorem RunV.form {x : T7} {A : Nat → Int} {n : Nat} {v : Value} (h : RunV x A n v) : ∃ y0 y1 y2 y3 y4 y5 y6 z, v = .tuple #[.agg #[.int .i64 y0, .int .i64 y1, .int .i64 y2, .int .i64 y3, .int .i64 y4, .int .i64 y5, .int .i64 y6], .int .i64 z] := by
  rcases h with ⟨_, rfl⟩ | ⟨_, k, _, _, _, rfl⟩
  · exact ⟨_, _, _, _, _, _, _, _, rfl⟩
  · exact ⟨_, _, _, _, _, _, _, _, rfl⟩
theorem keepD {W W' : World} {p q i j l : Nat} {a0 a1 a2 a3 a4 a5 a6 b0 b1 b2 : Value} (h0 : W.cell? ⟨p, 0, none⟩ = some a0) (h1 : W.cell? ⟨p, 1, none⟩ = some a1) (h2 : W.cell? ⟨p, 2, none⟩ = some a2) (h3 : W.cell? ⟨p, 3, none⟩ = some a3) (h4 : W.cell? ⟨p, 4, none⟩ = some a4) (h5 : W.cell? ⟨p, 5, none⟩ = some a5) (h6 : W.cell? ⟨p, 6, none⟩ = some a6) (g0 : W.cell? ⟨q, i, none⟩ = some b0) (g1 : W.cell? ⟨q, j, none⟩ = some b1) (g2 : W.cell? ⟨q, l, none⟩ = some b2) (hp : p < W.heap.size) (hq : q < W.heap.size) (hb : Below W.heap.size W W') :
    W'.cell? ⟨p, 0, none⟩ = some a0 ∧ W'.cell? ⟨p, 1, none⟩ = some a1 ∧ W'.cell? ⟨p, 2, none⟩ = some a2 ∧ W'.cell? ⟨p, 3, none⟩ = some a3 ∧ W'.cell? ⟨p, 4, none⟩ = some a4 ∧ W'.cell? ⟨p, 5, none⟩ = some a5 ∧ W'.cell? ⟨p, 6, none⟩ = some a6 ∧ W'.cell? ⟨q, i, none⟩ = some b0 ∧ W'.cell? ⟨q, j, none⟩ = some b1 ∧ W'.cell? ⟨q, l, none⟩ = some b2 :=
  ⟨(hb.cell (p := ⟨p, 0, none⟩) hp).trans h0, (hb.cell (p := ⟨p, 1, none⟩) hp).trans h1, (hb.cell (p := ⟨p, 2, none⟩) hp).trans h2, (hb.cell (p := ⟨p, 3, none⟩) hp).trans h3, (hb.cell (p := ⟨p, 4, none⟩) hp).trans h4, (hb.cell (p := ⟨p, 5, none⟩) hp).trans h5, (hb.cell (p := ⟨p, 6, none⟩) hp).trans h6, (hb.cell (p := ⟨q, i, none⟩) hq).trans g0, (hb.cell (p := ⟨q, j, none⟩) hq).trans g1, (hb.cell (p := ⟨q, l, none⟩) hq).trans g2⟩
end Go.Proofs.Ytjiojofgpdimaaa
