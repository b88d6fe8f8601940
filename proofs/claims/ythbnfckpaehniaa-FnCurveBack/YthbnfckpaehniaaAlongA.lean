/-
What is proved: the specification's Along at every list; that there is always an answer.
-/
import Derived.Test.YthbnfckpaehniaaAlongS
namespace Go.Proofs.Ythbnfckpaehniaa
set_option maxRecDepth 40000
open Go.RowKit

theorem specAlong_any (s : Option Addr) (n c : Nat) (V : Nat → Int) (x : Int) (w : World) (HR : RowI w s (n * 2) V) :
    Calls Try.prog 17 #[.slice s n c, .int .i64 x] w fun e w' => (∃ y ok, AV n V x y ok ∧ e = .returned (.tuple #[.int .i64 y, .bool ok])) ∧ Below w.heap.size w w' := by
  have K := specCurveOk_any s n c V w HR
  cases hC : curveB n V
  · rw [hC] at K
    refine (specAlong_no s n c x w K).mono ?_
    rintro e w' ⟨rfl, hb⟩
    exact ⟨⟨0, false, .inl ⟨hC, rfl, rfl⟩, rfl⟩, hb⟩
  · rw [hC] at K
    obtain ⟨c1, c2, c3⟩ := curve_ok hC
    exact specAlong_on s n c V x w (by omega) (by omega) HR hC c3 K
theorem seg_find {V : Nat → Int} {x : Int} (h0 : V (0 * 2) ≤ x) : ∀ m : Nat, x ≤ V ((m + 1) * 2) → ∃ j, j ≤ m ∧ V (j * 2) ≤ x ∧ x ≤ V ((j + 1) * 2)
  | 0, h => ⟨0, Nat.le_refl _, h0, h⟩
  | m + 1, h => by
    rcases Int.lt_or_le x (V ((m + 1) * 2)) with q | q
    · obtain ⟨j, a, b, c⟩ := seg_find h0 m (Int.le_of_lt q)
      exact ⟨j, by omega, b, c⟩
    · exact ⟨m + 1, Nat.le_refl _, q, h⟩
theorem av_exists (n : Nat) (V : Nat → Int) (x : Int) : ∃ y ok, AV n V x y ok := by
  cases hC : curveB n V
  · exact ⟨0, false, .inl ⟨hC, rfl, rfl⟩⟩
  · obtain ⟨c1, c2, c3⟩ := curve_ok hC
    by_cases q : V 0 ≤ x ∧ x ≤ V ((n - 1) * 2)
    · obtain ⟨m, rfl⟩ : ∃ m, n = m + 2 := ⟨n - 2, by omega⟩
      have e : m + 2 - 1 = m + 1 := by omega
      rw [e] at q
      obtain ⟨j, a, b, c⟩ := seg_find (V := V) (x := x) (by simpa using q.1) m q.2
      exact ⟨_, true, .inr ⟨hC, .inr ⟨j, by omega, b, c, rfl, rfl⟩⟩⟩
    · exact ⟨0, false, .inr ⟨hC, .inl ⟨by omega, rfl, rfl⟩⟩⟩
end Go.Proofs.Ythbnfckpaehniaa
