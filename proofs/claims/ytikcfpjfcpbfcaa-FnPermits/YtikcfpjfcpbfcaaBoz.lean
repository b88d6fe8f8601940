/-
What is proved: when a permit is formed and a book right, in numbers.
-/
import Derived.Test.YtikcfpjfcpbfcaaCuSz
import Derived.Test.YtikcfpjfcpbfcaaZcE
namespace Go.Proofs.Ytikcfpjfcpbfcaa
set_option maxRecDepth 40000
open Go.ChangeShapes Go.WideShapes Go.ChangeAt Go.RowKit
set_option linter.unusedVariables false
set_option linter.unusedSimpArgs false

def fmB (p : Int) (n : Nat) (id pl : Int) (k : Nat) (v : Nat → Int) : Bool := inB 1 1000000 id && (inB 0 (p - 1) pl && (risB v k && allInB 0 ((n : Int) - 1) v k))
def lsB (X : Nat → Int) (i : Nat) : Bool := decide (i = 0 ∨ X (i - 1) < X i)
def freeB (Y : Nat → Int) (i : Nat) (y : Int) : Bool := decide (∀ j, j < i → Y j ≠ y)
def pmB (p : Int) (n : Nat) (D : Nat → Int × Int) (m : Nat) (S : Nat → Int) (X Y : Nat → Int) (K : Nat → Nat) (V : Nat → Nat → Int) (i : Nat) : Bool := fmB p n (X i) (Y i) (K i) (V i) && (cutB p n D m S (K i) (V i) (Y i) && (lsB X i && freeB Y i (Y i)))
def bokB (p : Int) (n : Nat) (D : Nat → Int × Int) (m : Nat) (S : Nat → Int) (nb : Nat) (X Y : Nat → Int) (K : Nat → Nat) (V : Nat → Nat → Int) : Bool := netB p n D m S && (decide (nb ≤ 20) && decide (∀ i, i < nb → pmB p n D m S X Y K V i = true))
theorem bok_no {p : Int} {n : Nat} {D : Nat → Int × Int} {m : Nat} {S : Nat → Int} {nb : Nat} {X Y : Nat → Int} {K : Nat → Nat} {V : Nat → Nat → Int} {k : Nat} (hk : k < nb) (h : pmB p n D m S X Y K V k = false) : bokB p n D m S nb X Y K V = false := by
  unfold bokB
  have : decide (∀ i, i < nb → pmB p n D m S X Y K V i = true) = false := decide_eq_false fun q => by have := q k hk; rw [h] at this; cases this
  rw [this]
  simp
theorem bok_yes {p : Int} {n : Nat} {D : Nat → Int × Int} {m : Nat} {S : Nat → Int} {nb : Nat} {X Y : Nat → Int} {K : Nat → Nat} {V : Nat → Nat → Int} (h : bokB p n D m S nb X Y K V = true) : netB p n D m S = true ∧ nb ≤ 20 ∧ ∀ i, i < nb → pmB p n D m S X Y K V i = true := by
  unfold bokB at h
  simp only [Bool.and_eq_true, decide_eq_true_iff] at h
  exact h
theorem pm_yes {p : Int} {n : Nat} {D : Nat → Int × Int} {m : Nat} {S : Nat → Int} {X Y : Nat → Int} {K : Nat → Nat} {V : Nat → Nat → Int} {i : Nat} (h : pmB p n D m S X Y K V i = true) : fmB p n (X i) (Y i) (K i) (V i) = true ∧ cutB p n D m S (K i) (V i) (Y i) = true ∧ lsB X i = true ∧ freeB Y i (Y i) = true := by
  unfold pmB at h
  simp only [Bool.and_eq_true] at h
  exact h
theorem fm_yes {p : Int} {n : Nat} {id pl : Int} {k : Nat} {v : Nat → Int} (h : fmB p n id pl k v = true) : (1 ≤ id ∧ id ≤ 1000000) ∧ (0 ≤ pl ∧ pl ≤ p - 1) ∧ risB v k = true ∧ ∀ j, j < k → 0 ≤ v j ∧ v j ≤ (n : Int) - 1 := by
  unfold fmB at h
  simp only [Bool.and_eq_true] at h
  exact ⟨inB_yes h.1, inB_yes h.2.1, h.2.2.1, allIn_yes h.2.2.2.symm⟩
theorem keepN {W W' : World} {p : Nat} {v0 v1 v2 : Value} (h0 : W.cell? ⟨p, 0, none⟩ = some v0) (h1 : W.cell? ⟨p, 1, none⟩ = some v1) (h2 : W.cell? ⟨p, 2, none⟩ = some v2) (z : p < W.heap.size) (hb : Below W.heap.size W W') : W'.cell? ⟨p, 0, none⟩ = some v0 ∧ W'.cell? ⟨p, 1, none⟩ = some v1 ∧ W'.cell? ⟨p, 2, none⟩ = some v2 := ⟨(hb.cell (p := ⟨p, 0, none⟩) z).trans h0, (hb.cell (p := ⟨p, 1, none⟩) z).trans h1, (hb.cell (p := ⟨p, 2, none⟩) z).trans h2⟩
theorem keep1 {W W' : World} {p o : Nat} {v : Value} (h0 : W.cell? ⟨p, o, none⟩ = some v) (z : p < W.heap.size) (hb : Below W.heap.size W W') : W'.cell? ⟨p, o, none⟩ = some v := (hb.cell (p := ⟨p, o, none⟩) z).trans h0
end Go.Proofs.Ytikcfpjfcpbfcaa
