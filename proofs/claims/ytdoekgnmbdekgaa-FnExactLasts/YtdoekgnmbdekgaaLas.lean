/-
What is proved: how many loads a battery bears, in whole numbers; a battery in its block goes on.
-/
import Derived.Test.YtdoekgnmbdekgaaBatI
import Derived.Test.YtdoekgnmbdekgaaRowI
namespace Go.Proofs.Ytdoekgnmbdekgaa
set_option maxRecDepth 40000
open Go.RowKit
set_option linter.unusedVariables false
set_option linter.unusedSimpArgs false

abbrev B4 := Int × Int × Int × Int
def nextB (y : B4) (l : Int) : B4 := (nC y.1 y.2.1 y.2.2.1 y.2.2.2 l 0, nM y.1 y.2.1 y.2.2.1 y.2.2.2 l 0, nG y.1 y.2.1 y.2.2.1 y.2.2.2 l 0, nF y.1 y.2.1 y.2.2.1 y.2.2.2 l 0)
def stB (y : B4) (l : Int) : Bool := stpB y.1 y.2.1 y.2.2.1 y.2.2.2 l 0
def lkB (y : B4) (l : Int) : Int := nL y.1 y.2.1 y.2.2.1 y.2.2.2 l 0
def runB (y : B4) (V : Nat → Int) : Nat → B4
  | 0 => y
  | k + 1 => nextB (runB y V k) (V k)
def bearsB (y : B4) (V : Nat → Int) (k : Nat) : Bool := stB (runB y V k) (V k) && decide (lkB (runB y V k) (V k) ≤ 0)
/-- The first of n places at which p is false; n if there is none. -/
def LastV (p : Nat → Bool) (n r : Nat) : Prop := r ≤ n ∧ (∀ j, j < r → p j = true) ∧ (r < n → p r = false)
theorem LastV.one {p : Nat → Bool} {n r q : Nat} (h : LastV p n r) (k : LastV p n q) : r = q := by
  obtain ⟨h1, h2, h3⟩ := h
  obtain ⟨k1, k2, k3⟩ := k
  by_cases a : r < q
  · have := h3 (by omega); rw [k2 r a] at this; cases this
  · by_cases b : q < r
    · have := k3 (by omega); rw [h2 q b] at this; cases this
    · omega
theorem last_some (p : Nat → Bool) (n : Nat) : ∃ r, LastV p n r := by
  induction n with
  | zero => exact ⟨0, Nat.le_refl _, fun j hj => by omega, fun h => by omega⟩
  | succ n ih =>
    obtain ⟨r, h1, h2, h3⟩ := ih
    by_cases a : r < n
    · exact ⟨r, by omega, h2, fun _ => h3 a⟩
    · obtain rfl : r = n := by omega
      cases e : p r
      · exact ⟨r, by omega, h2, fun _ => e⟩
      · exact ⟨r + 1, Nat.le_refl _, fun j hj => by
          by_cases q : j = r
          · rw [q]; exact e
          · exact h2 j (by omega), fun h => by omega⟩
theorem last_zero {C M G F : Int} (V : Nat → Int) (n : Nat) (h : batB C M G F = false) : LastV (bearsB (C, M, G, F) V) n 0 :=
  ⟨Nat.zero_le _, fun j hj => by omega, fun _ => by simp [bearsB, stB, stpB, runB, h]⟩
theorem Beside.low {r : Nat} {a b c : World} (h : Beside r a b) (k : Below a.heap.size b c) : Beside r a c := by
  obtain ⟨h1, h2, h3, h4, h5⟩ := h
  exact ⟨k.os.trans h1, k.tape.trans h2, k.output.trans h3, Nat.le_trans h4 k.size, fun j hj hn => (k.block j hj).trans (h5 j hj hn)⟩
def setB4 (w : World) (p : Nat) (u0 u1 u2 u3 : Int) : World := (((w.setCell ⟨p, 0, none⟩ (.int .i64 u0)).setCell ⟨p, 1, none⟩ (.int .i64 u1)).setCell ⟨p, 2, none⟩ (.int .i64 u2)).setCell ⟨p, 3, none⟩ (.int .i64 u3)
theorem setB4_beside (w : World) (p : Nat) (u0 u1 u2 u3 : Int) : Beside p w (setB4 w p u0 u1 u2 u3) := (((Beside.setCell _ _ 0 _).trans (Beside.setCell _ _ 1 _)).trans (Beside.setCell _ _ 2 _)).trans (Beside.setCell _ _ 3 _)
theorem BatAt.set {w : World} {p : Nat} {x0 x1 x2 x3 : Int} (h : BatAt w p x0 x1 x2 x3) (u0 u1 u2 u3 : Int) : BatAt (setB4 w p u0 u1 u2 u3) p u0 u1 u2 u3 := by
  obtain ⟨h1, h2, c0, c1, c2, c3⟩ := h
  unfold setB4
  refine ⟨by simpa using h1, fun o => ?_, ?_, ?_, ?_, ?_⟩
  · have := h2 o; simpa [go_sem] using this
  all_goals simp [go_sem, c0, c1, c2, c3]
/-- Where a run stands. -/
def LasAt (p : Nat) (w1 wr : World) (y : B4) : Prop := Beside p w1 wr ∧ BatAt wr p y.1 y.2.1 y.2.2.1 y.2.2.2
theorem LasAt.below {p : Nat} {w1 wr w' : World} {y : B4} (h : LasAt p w1 wr y) (hb : Below wr.heap.size wr w') : LasAt p w1 w' y := ⟨h.1.trans (Beside.of hb), h.2.below hb⟩
theorem LasAt.set {p : Nat} {w1 wr : World} {y : B4} (h : LasAt p w1 wr y) (u0 u1 u2 u3 : Int) : LasAt p w1 (setB4 wr p u0 u1 u2 u3) (u0, u1, u2, u3) := ⟨h.1.trans (setB4_beside ..), h.2.set ..⟩
end Go.Proofs.Ytdoekgnmbdekgaa
