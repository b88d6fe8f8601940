/-
What is proved: what is read of a frame's bytes.
-/
import Derived.Test.YtkocbklkiehdiaaCr
import Derived.Test.YtkocbklkiehdiaaIsW
import Derived.Test.YtkocbklkiehdiaaOwn
namespace Go.Proofs.Ytkocbklkiehdiaa
set_option maxRecDepth 40000
open Go.RowKit
set_option linter.unusedVariables false
set_option linter.unusedSimpArgs false

def numV (V : Nat → Int) (j : Nat) : Int := V j * 256 + V (j + 1)
def faultV (n : Nat) (V : Nat → Int) : Int := if n < 7 then 1 else if V 0 ≠ 165 then 2 else if 20 < V 4 ∨ (n : Int) ≠ 7 + 2 * V 4 then 3 else if (crcN V (n - 2) : Int) ≠ numV V (n - 2) then 4 else if V 1 < 1 ∨ 4 < V 1 then 5 else 0
def rdN (n : Nat) (V : Nat → Int) : Nat := if faultV n V = 0 then (V 4).toNat else 0
def rdT (n : Nat) (V : Nat → Int) : Int := if faultV n V = 0 then V 1 else 0
def rdQ (n : Nat) (V : Nat → Int) : Int := if faultV n V = 0 then numV V 2 else 0
def rdU (V : Nat → Int) (j : Nat) : Int := numV V (5 + 2 * j)
def RdPost (w : World) (n : Nat) (V : Nat → Int) (e : Ending) (w' : World) : Prop := ∃ s' c', e = .returned (.tuple #[.agg #[.int .i64 (rdT n V), .int .i64 (rdQ n V), .slice s' (rdN n V) c'], .int .i64 (faultV n V)]) ∧ OwnI w.heap.size w' s' (rdN n V) (rdU V) ∧ Below w.heap.size w w'
theorem fault1 {n : Nat} {V : Nat → Int} (h : n < 7) : faultV n V = 1 := by unfold faultV; rw [if_pos h]
theorem fault2 {n : Nat} {V : Nat → Int} (h : ¬ n < 7) (h0 : V 0 ≠ 165) : faultV n V = 2 := by unfold faultV; rw [if_neg h, if_pos h0]
theorem fault3 {n : Nat} {V : Nat → Int} (h : ¬ n < 7) (h0 : V 0 = 165) (h1 : 20 < V 4 ∨ (n : Int) ≠ 7 + 2 * V 4) : faultV n V = 3 := by unfold faultV; rw [if_neg h, if_neg (by omega), if_pos h1]
theorem fault4 {n : Nat} {V : Nat → Int} (h : ¬ n < 7) (h0 : V 0 = 165) (h1 : ¬ (20 < V 4 ∨ (n : Int) ≠ 7 + 2 * V 4)) (h2 : (crcN V (n - 2) : Int) ≠ numV V (n - 2)) : faultV n V = 4 := by unfold faultV; rw [if_neg h, if_neg (by omega), if_neg h1, if_pos h2]
theorem fault5 {n : Nat} {V : Nat → Int} (h : ¬ n < 7) (h0 : V 0 = 165) (h1 : ¬ (20 < V 4 ∨ (n : Int) ≠ 7 + 2 * V 4)) (h2 : (crcN V (n - 2) : Int) = numV V (n - 2)) (h3 : V 1 < 1 ∨ 4 < V 1) : faultV n V = 5 := by unfold faultV; rw [if_neg h, if_neg (by omega), if_neg h1, if_neg (by omega), if_pos h3]
theorem fault0 {n : Nat} {V : Nat → Int} (h : ¬ n < 7) (h0 : V 0 = 165) (h1 : ¬ (20 < V 4 ∨ (n : Int) ≠ 7 + 2 * V 4)) (h2 : (crcN V (n - 2) : Int) = numV V (n - 2)) (h3 : ¬ (V 1 < 1 ∨ 4 < V 1)) : faultV n V = 0 := by unfold faultV; rw [if_neg h, if_neg (by omega), if_neg h1, if_neg (by omega), if_neg h3]
theorem rd_no {n : Nat} {V : Nat → Int} {k : Int} (h : faultV n V = k) (hk : k ≠ 0) : rdN n V = 0 ∧ rdT n V = 0 ∧ rdQ n V = 0 := by
  unfold rdN rdT rdQ
  rw [h, if_neg hk, if_neg hk, if_neg hk]
  exact ⟨rfl, rfl, rfl⟩
theorem rd_yes {n : Nat} {V : Nat → Int} (h : faultV n V = 0) : rdN n V = (V 4).toNat ∧ rdT n V = V 1 ∧ rdQ n V = numV V 2 := by
  unfold rdN rdT rdQ
  rw [h, if_pos rfl, if_pos rfl, if_pos rfl]
  exact ⟨rfl, rfl, rfl⟩
theorem rowY_at {w : World} {b o n : Nat} {V : Nat → Int} (h : RowY w (some ⟨b, o, none⟩) n V) {j : Nat} (hj : j < n) : w.cell? ⟨b, o + j, none⟩ = some (.int .u8 (V j)) ∧ b < w.heap.size := by
  obtain ⟨b', o', e, h1, h2⟩ := h j hj
  cases e
  exact ⟨h2, h1⟩
theorem RowY.less {w : World} {s : Option Addr} {n m : Nat} {V : Nat → Int} (h : RowY w s n V) (hm : m ≤ n) : RowY w s m V := fun j hj => h j (by omega)
theorem rd_le {n : Nat} {V : Nat → Int} : (rdN n V : Int) ≤ 1048576 := by
  by_cases h : faultV n V = 0
  · rw [(rd_yes h).1]
    by_cases h1 : 20 < V 4 ∨ (n : Int) ≠ 7 + 2 * V 4
    · exfalso
      by_cases h7 : n < 7
      · rw [fault1 h7] at h; omega
      · by_cases h0 : V 0 = 165
        · rw [fault3 h7 h0 h1] at h; omega
        · rw [fault2 h7 h0] at h; omega
    · omega
  · rw [(rd_no rfl h).1]; decide
end Go.Proofs.Ytkocbklkiehdiaa
