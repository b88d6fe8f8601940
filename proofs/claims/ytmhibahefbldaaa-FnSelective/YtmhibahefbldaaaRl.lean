/-
What is proved: when a relay is right, and its delay, in numbers.
-/
import Derived.Test.YtmhibahefbldaaaIsW
import Derived.Test.YtmhibahefbldaaaAllIn
namespace Go.Proofs.Ytmhibahefbldaaa
set_option maxRecDepth 40000
open Go.RowKit
set_option linter.unusedVariables false
set_option linter.unusedSimpArgs false

def relB (p d : Int) : Bool := inB 1 100000 p && inB 1 100 d
theorem relB_yes {p d : Int} (h : relB p d = true) : (1 ≤ p ∧ p ≤ 100000) ∧ (1 ≤ d ∧ d ≤ 100) := by
  unfold relB inB at h
  simp only [Bool.and_eq_true, decide_eq_true_iff] at h
  omega
/-- The delay of a relay that is right and touched. -/
def quoV (p d a : Int) : Int := -(-(d * p * 1000) / (a - p))
def delV (p d a : Int) : Int := if (relB p d && (inB 0 1000000 a && decide (p < a))) = true then quoV p d a else -1
theorem prod_rng {p d : Int} (hp : 1 ≤ p ∧ p ≤ 100000) (hd : 1 ≤ d ∧ d ≤ 100) : 1 ≤ d * p ∧ d * p ≤ 10000000 := by
  have t1 : 1 * p ≤ d * p := Int.mul_le_mul_of_nonneg_right hd.1 (by omega)
  have t2 : d * p ≤ 100 * p := Int.mul_le_mul_of_nonneg_right hd.2 (by omega)
  omega
theorem up_eq {x n : Int} (hx : 0 ≤ x) (hn : 1 ≤ n) : (x + n - 1).tdiv n = -(-x / n) := by
  rw [Int.tdiv_eq_ediv_of_nonneg (by omega)]
  have g1 := Int.mul_ediv_add_emod (-x) n
  have g3 := Int.emod_nonneg (-x) (by omega : n ≠ 0)
  have g4 := Int.emod_lt_of_pos (-x) (by omega : 0 < n)
  have k : n * (-(-x / n)) = -(n * (-x / n)) := Int.mul_neg ..
  exact ((Int.ediv_emod_unique (r := n - 1 - (-x) % n) (q := -(-x / n)) (by omega : 0 < n)).2 ⟨by omega, by omega, by omega⟩).1
theorem quo_rng {p d a : Int} (h : relB p d = true) (h1 : p < a) : 1 ≤ quoV p d a ∧ quoV p d a ≤ 10000000000 := by
  obtain ⟨hp, hd⟩ := relB_yes h
  have := prod_rng hp hd
  have e := up_eq (x := d * p * 1000) (n := a - p) (by omega) (by omega)
  unfold quoV
  rw [← e, Int.tdiv_eq_ediv_of_nonneg (by omega)]
  have g1 := Int.mul_ediv_add_emod (d * p * 1000 + (a - p) - 1) (a - p)
  have g3 := Int.emod_nonneg (d * p * 1000 + (a - p) - 1) (by omega : (a - p) ≠ 0)
  have g4 := Int.emod_lt_of_pos (d * p * 1000 + (a - p) - 1) (by omega : 0 < a - p)
  obtain ⟨q, hq⟩ : ∃ q, (d * p * 1000 + (a - p) - 1) / (a - p) = q := ⟨_, rfl⟩
  rw [hq] at g1 ⊢
  constructor
  · rcases Int.lt_or_le 0 q with c | c
    · omega
    · have : (a - p) * q ≤ (a - p) * 0 := Int.mul_le_mul_of_nonneg_left c (by omega)
      omega
  · rcases Int.lt_or_le 10000000000 q with c | c
    · have t : (a - p) * 10000000001 ≤ (a - p) * q := Int.mul_le_mul_of_nonneg_left (by omega) (by omega)
      omega
    · exact c
theorem del_rng (p d a : Int) : -1 ≤ delV p d a ∧ delV p d a ≤ 10000000000 := by
  unfold delV
  split
  · rename_i h
    simp only [Bool.and_eq_true, decide_eq_true_iff] at h
    have := quo_rng h.1 h.2.2
    omega
  · omega
theorem del_off {p d a : Int} (h : (relB p d && (inB 0 1000000 a && decide (p < a))) = false) : delV p d a = -1 := by unfold delV; rw [h]; rfl
theorem del_on {p d a : Int} (h0 : relB p d = true) (h1 : inB 0 1000000 a = true) (h2 : p < a) : delV p d a = quoV p d a := by
  unfold delV; rw [h0, h1, decide_eq_true h2]; rfl
end Go.Proofs.Ytmhibahefbldaaa
