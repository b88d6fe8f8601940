/-
What is proved: quotients that fall, as the program takes them.
-/
import Derived.Test.YtmhibahefbldaaaIsW
namespace Go.Proofs.Ytmhibahefbldaaa
set_option maxRecDepth 40000
open Go.RowKit
set_option linter.unusedVariables false
set_option linter.unusedSimpArgs false

theorem down_eq {a b : Int} (hb : 1 ≤ b) : (a.tmod b < 0 → a.tdiv b - 1 = a / b) ∧ (¬ a.tmod b < 0 → a.tdiv b = a / b) := by
  have h1 := Int.mul_tdiv_add_tmod a b
  have h2 := Int.mul_ediv_add_emod a b
  have h3 := Int.emod_nonneg a (by omega : b ≠ 0)
  have h4 := Int.emod_lt_of_pos a (by omega : 0 < b)
  rcases Int.lt_or_le a 0 with s | s
  · have e1 : a.tdiv b = -((-a) / b) := by
      obtain ⟨c, rfl⟩ : ∃ c, a = -c := ⟨-a, by omega⟩
      rw [Int.neg_tdiv, Int.tdiv_eq_ediv_of_nonneg (by omega)]; simp
    have g1 := Int.mul_ediv_add_emod (-a) b
    have g3 := Int.emod_nonneg (-a) (by omega : b ≠ 0)
    have g4 := Int.emod_lt_of_pos (-a) (by omega : 0 < b)
    have e2 : a.tmod b = -((-a) % b) := by
      have : b * (-((-a) / b)) = -(b * ((-a) / b)) := Int.mul_neg ..
      rw [e1, this] at h1
      omega
    refine ⟨fun h => ?_, fun h => ?_⟩
    · rw [e1]
      have : (-a) % b > 0 := by omega
      have k : b * (-((-a) / b) - 1) + (b - (-a) % b) = a := by rw [Int.mul_sub, Int.mul_neg]; omega
      exact ((Int.ediv_emod_unique (r := b - (-a) % b) (q := -((-a) / b) - 1) (by omega : 0 < b)).2 ⟨by omega, by omega, by omega⟩).1.symm
    · rw [e1]
      have : (-a) % b = 0 := by omega
      have k : b * (-((-a) / b)) + 0 = a := by rw [Int.mul_neg]; omega
      exact ((Int.ediv_emod_unique (r := 0) (q := -((-a) / b)) (by omega : 0 < b)).2 ⟨by omega, by omega, by omega⟩).1.symm
  · rw [Int.tdiv_eq_ediv_of_nonneg s, Int.tmod_eq_emod_of_nonneg s]
    exact ⟨fun h => by omega, fun _ => rfl⟩

theorem wrap_small64 {x : Int} (h0 : -9223372036854775808 ≤ x) (h1 : x ≤ 9223372036854775807) : wrap64 x = x := by
  unfold wrap64; omega
theorem tdiv_bounds {a b : Int} (ha : -1000000000000000 ≤ a) (ha' : a ≤ 1000000000000000) (hb : 1 ≤ b) : -1000000000000000 ≤ a.tdiv b ∧ a.tdiv b ≤ 1000000000000000 := by
  have h1 := Int.mul_tdiv_add_tmod a b
  rcases Int.lt_or_le a 0 with s | s
  · obtain ⟨c, rfl⟩ : ∃ c, a = -c := ⟨-a, by omega⟩
    rw [Int.neg_tdiv, Int.tdiv_eq_ediv_of_nonneg (by omega)]
    have := Int.ediv_le_self b (a := c) (by omega)
    have := Int.ediv_nonneg (a := c) (b := b) (by omega) (by omega)
    omega
  · rw [Int.tdiv_eq_ediv_of_nonneg s]
    have := Int.ediv_le_self b (a := a) s
    have := Int.ediv_nonneg (a := a) (b := b) s (by omega)
    omega
set_option maxHeartbeats 400000 in
theorem quotientDown_any (a b : Int) (w : World) (ha : -1000000000000000 ≤ a) (ha' : a ≤ 1000000000000000) (hb : 1 ≤ b) (hb' : b ≤ 1000000000000000) :
    Calls Try.prog 41 #[.int .i64 a, .int .i64 b] w fun e w' => e = .returned (.int .i64 (a / b)) ∧ w' = w := by
  obtain ⟨d1, d2⟩ := down_eq (a := a) hb
  obtain ⟨q1, q2⟩ := tdiv_bounds (a := a) (b := b) ha ha' hb
  have D1 : Hid _ := d1
  have D2 : Hid _ := d2
  clear d1 d2
  by_cases s : a.tmod b < 0
  · go_enter Try.func41, Try.ntmps41
    go_wp2
    go_ret
    exact ⟨ret_int (by rw [← D1.out s]), rfl⟩
  · go_enter Try.func41, Try.ntmps41
    go_wp2
    go_ret
    exact ⟨ret_int (D2.out (by omega)), rfl⟩
end Go.Proofs.Ytmhibahefbldaaa
